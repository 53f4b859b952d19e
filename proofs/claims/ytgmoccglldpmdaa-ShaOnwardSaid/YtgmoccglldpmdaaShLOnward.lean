/-
  ShaOnward holds: of every two texts the law returns true, and its arguments read as they did.
-/
import Derived.Test.YtgmoccglldpmdaaShOnL
import Derived.Test.YtgmoccglldpmdaaShEq
import Derived.Test.YtgmoccglldpmdaaShAwake
import Derived.Test.YtgmoccglldpmdaaOpen
import Derived.Test.YtgmoccglldpmdaaOpenA
import Derived.ProofKit
import Derived.OpenShut
import Derived.ShutString
import Derived.ChangeOld
namespace Go.Proofs.Ytgmoccglldpmdaa
open Go.RowKit Go.ChangeShapes Go.WideShapes Go.ChangeAt
attribute [local go_sem ↓] Go.wp_at_zero Go.wp_at_succ
theorem bytesElt : Elt Try.prog 22 5 (.int .u8 0) 1 := ⟨Try.underlying22, by kernel_rfl, rfl, by omega⟩
theorem index_u8 {t n : Nat} (ht : Try.prog.underlying t = some (.array n 5)) (s : List UInt8) (hs : s.length = n) (i : Nat) (hi : i < n) (w : World) : (Instr.index t (.agg (bva s)) (.int .i64 (i : Int))).run Try.prog w = .ok (.int .u8 ((s.getD i 0).toNat : Int)) w := by
  obtain ⟨inf, hinf⟩ := Option.isSome_iff_exists.1 (show (Try.prog.info? 5).isSome = true by kernel_rfl)
  exact run_index_arr ht (by kernel_rfl) hinf (by kernel_rfl) hi (bva_get (by omega)) w
def rdS (S : List UInt8) (k : Nat) : List UInt32 := rdTo (fun i => S.getD i 0) k
theorem rdS_length (S : List UInt8) (k : Nat) : (rdS S k).length = 8 := rdTo_length _ _
theorem rdS_step (S : List UInt8) {k p : Nat} (hp : p = k / 4) {x : UInt8} (hx : x = S.getD k 0) {y : UInt32} (hy : y = (rdS S k).getD p 0) : rdS S (k + 1) = (rdS S k).set p (onB y x) := by
  subst hp hx hy; rfl
theorem rdS_sha (l : List UInt8) : rdS (shaL l) 32 = overL firstL (padL l) := rdTo_all _ (by rw [overL_length]; rfl)
theorem own_caps {w : World} {base n c : Nat} {e : TypeId} {A : Option Addr} {xs : List Value} (h : w.ownsRow base e 1 (.slice A n c) n xs) : n ≤ c ∧ c ≤ maxLen := by
  rcases h.2 with ⟨h0, h1⟩ | ⟨_, cap, _, h0, _, _, h1, h2, _⟩
  · injection h0 with _ _ h0
    rw [h0, h1]; unfold maxLen; omega
  · injection h0 with _ _ h0
    omega
/-- The length that a row's header tells. -/
def lenS : Value → Nat
  | .slice _ m _ => m
  | _ => 0
/-- The bytes of the words, as far as the first k words are laid. -/
def layB (hs : List UInt32) (k : Nat) : List UInt8 := layTo 0 (fun i => byteB (hs.getD (i / 4) 0) (i % 4)) 32 (4 * k)
theorem layB_length (hs : List UInt32) (k : Nat) : (layB hs k).length = 32 := layTo_length _ _ _ _
theorem layB_step (hs : List UInt32) {k m : Nat} (hm : m = 4 * k) {x : UInt32} (hx : x = hs.getD k 0) : layB hs (k + 1) = ((((layB hs k).set m (byteB x 0)).set (m + 1) (byteB x 1)).set (m + 2) (byteB x 2)).set (m + 3) (byteB x 3) := by
  have e : 4 * (k + 1) = m + 1 + 1 + 1 + 1 := by omega
  rw [layB, e, layTo, layTo, layTo, layTo, layB, ← hm, show (m + 1 + 1 + 1) / 4 = k by omega, show (m + 1 + 1) / 4 = k by omega, show (m + 1) / 4 = k by omega, show m / 4 = k by omega,
    show (m + 1 + 1 + 1) % 4 = 3 by omega, show (m + 1 + 1) % 4 = 2 by omega, show (m + 1) % 4 = 1 by omega, show m % 4 = 0 by omega, ← hx]
theorem layB_all (hs : List UInt32) : layB hs 8 = toldB hs := toldB_lay hs
theorem by0 (x : UInt32) : (x.toNat : Int) / 16777216 % 256 = ((byteB x 0).toNat : Int) := byteB_val x (m := 24) (j := 0) rfl
theorem by1 (x : UInt32) : (x.toNat : Int) / 65536 % 256 = ((byteB x 1).toNat : Int) := byteB_val x (m := 16) (j := 1) rfl
theorem by2 (x : UInt32) : (x.toNat : Int) / 256 % 256 = ((byteB x 2).toNat : Int) := byteB_val x (m := 8) (j := 2) rfl
theorem by3 (x : UInt32) : (x.toNat : Int) % 256 = ((byteB x 3).toNat : Int) := by
  have h := byteB_val x (m := 0) (j := 3) rfl
  simpa using h
set_option maxHeartbeats 6400000 in
theorem shaOnward_any (w : World) (A : Option Addr) (n c : Nat) (l : List UInt8) (hl : l.length = n) (_ : n ≤ c) (_ : c ≤ maxLen) (hr : Rd w.heap.size w A (bv l))
    (A' : Option Addr) (n' c' : Nat) (l' : List UInt8) (hl' : l'.length = n') (_ : n' ≤ c') (_ : c' ≤ maxLen) (hr' : Rd w.heap.size w A' (bv l')) :
    Calls Try.prog 10 #[.slice A n c, .slice A' n' c'] w (RetB (.bool true) w) := by
  have HL := Lib.hid hl
  have HR := Lib.hid hr
  have HL' := Lib.hid hl'
  have HR' := Lib.hid hr'
  clear hl hr hl' hr'
  have hz29 : ∀ W, (zeroValue 29).run Try.prog W = .ok (.agg (bva (List.replicate 64 0))) W := fun _ => by kernel_rfl
  by_cases hn : n ≤ 300
  · by_cases hn' : n' ≤ 300
    · have h3 : decide (300 < (n' : Int)) = false := by simp; omega
      have h4 : decide (300 < (n : Int)) = false := by simp; omega
      go_enter Try.func10, Try.ntmps10
      go_wp2_with fail
      refine (awake_any _).mono ?_
      rintro e w1 ⟨rfl, bw1⟩
      have H1 := Lib.hid bw1
      clear bw1
      go_wp2_with fail
      refine (pad_any A n c l _ HL.out H1.out.size (HR.out.below H1.out) (by omega)).mono ?_
      rintro e w2 ⟨A2, n2, c2, rfl, ho2, bw2⟩
      have hl2 : (padL l).length = n2 := own_blen ho2
      have hn2 : n2 = padN n := by rw [← hl2, padL_length, HL.out]
      have h64 : n2 % 64 = 0 := by rw [hn2]; exact padN_mod _
      have hn2a : n2 ≤ 400 := by rw [hn2]; unfold padN; omega
      have hn2b : 0 < n2 := by rw [hn2]; have := padN_le n; omega
      have H2 := Lib.hid (H1.out.trans (bw2.mono H1.out.size))
      obtain ⟨P0, hP0⟩ : ∃ P0, P0 = padL l := ⟨_, rfl⟩
      rw [← hP0] at hl2 ho2
      have HP0 := Lib.hid hP0
      have HPL0 := Lib.hid hl2
      have O2 := Lib.hid ho2
      have H64' := Lib.hid h64
      have HW2 := Lib.hid H2.out.size
      clear H1 bw2 hl2 hP0 ho2 hn2 h64
      go_wp2_with first
        | (at_builtin
           refine wpList_app _ rfl (.tmp 27) (.tmp 28) _ rfl bytesElt (base := w2.heap.size) (v := .slice (some ⟨w2.heap.size, 0, none⟩) 0 0) rfl (World.ownsRow_lit w2 #[] 0 (Nat.le_refl _) (Nat.zero_le _) rfl) (m := n2) rfl ((Rd.own O2.out).below ((Below.refl _ _).alloc (Nat.le_refl _) _)) ((bv_length P0).trans HPL0.out) (bv_one _) ?_ ?_ ?_
           · omega
           · simp
           intro A3 c3 w3 ho3 hg3 _
           have hb3 := app_below ((Below.refl _ _).alloc (Nat.le_refl _) _) (World.ownsRow_lit w2 #[] 0 (Nat.le_refl _) (Nat.zero_le _) rfl) hg3 (Nat.le_refl _) (by simp)
           have ho3' := own_eq ho3 (n' := n2) (by omega) (xs' := bv P0) rfl
           have O3 := Lib.hid ho3'
           have B3 := Lib.hid hb3
           clear ho3 ho3' hg3 hb3
           rw [Nat.zero_add])
        | (at_builtin
           refine wpList_app _ rfl (.tmp 29) (.tmp 30) _ rfl bytesElt (base := w2.heap.size) (v := .slice A3 n2 c3) rfl O3.out (m := n') rfl (HR'.out.below (H2.out.trans (B3.out.mono HW2.out))) ((bv_length l').trans HL'.out) (bv_one _) ?_ ?_ ?_
           · omega
           · exact B3.out.size
           intro A6 c6 w6 ho6 hg6 _
           have hb6 := app_below B3.out O3.out hg6 (Nat.le_refl _) B3.out.size
           have ho6' := own_eq ho6 (n' := n2 + n') rfl (xs' := bv (P0 ++ l')) (bv_append _ _).symm
           have O6 := Lib.hid ho6'
           have B6 := Lib.hid (H2.out.trans (hb6.mono HW2.out))
           obtain ⟨q, hq⟩ : ∃ q, q = w6.heap.size := ⟨_, rfl⟩
           have hq' : w6.heap.size = q := hq.symm
           clear ho6 ho6' hg6 hb6 hq O3 B3)
      obtain ⟨L, hL⟩ : ∃ L, L = P0 ++ l' := ⟨_, rfl⟩
      have HLP := Lib.hid hL
      have HLL : Hid (L.length = n2 + n') := by show _ = _; rw [hL, List.length_append, HPL0.out, HL'.out]
      rw [← hL] at O6
      have hqw : w.heap.size ≤ q := by have := B6.out.size; omega
      clear hL
      have bq : Below w6.heap.size w6 (w6.alloc (.cells (uv (List.replicate 8 0)) 28)) := (Below.refl _ _).alloc (Nat.le_refl _) _
      have q1 : Blk (w6.alloc (.cells (uv (List.replicate 8 0)) 28)) q (uv (rdS (shaL l) 0)) 28 := by rw [← hq']; exact heap_alloc_new _ _
      have q2 : Below w.heap.size w (w6.alloc (.cells (uv (List.replicate 8 0)) 28)) := B6.out.alloc B6.out.size _
      have ql : Rd q (w6.alloc (.cells (uv (List.replicate 8 0)) 28)) A6 (bv L) := by rw [← hq']; exact (Rd.own O6.out).below bq
      have Q1 := Lib.hid q1
      have Q2 := Lib.hid q2
      have QL := Lib.hid ql
      clear q1 q2 ql bq O6 B6 H2 O2 HW2
      refine (sum_any A n c l _ HL.out Q2.out.size (HR.out.below Q2.out) (by omega)).mono ?_
      rintro e w7 ⟨rfl, bw7⟩
      have S1 := Lib.hid (Q1.out.below bw7)
      have S2 := Lib.hid (Q2.out.trans (bw7.mono Q2.out.size))
      have SL := Lib.hid (rd_far QL.out (grown_of_below bw7 (row := some q)) (Nat.le_refl _))
      obtain ⟨S, hS⟩ : ∃ S, S = shaL l := ⟨_, rfl⟩
      rw [← hS] at S1
      have HS := Lib.hid hS
      have HS32 : Hid (S.length = 32) := by show _ = _; rw [hS, shaL_length]
      rw [← hS]
      clear Q1 Q2 QL bw7 hq' hS
      go_wp2_with fail
      go_loopw [8, 9, 34] (fun _ _ i wr => ∃ k : Nat, k ≤ 32 ∧ i = .int .i64 k ∧ Blk wr q (uv (rdS S k)) 28 ∧ Rd q wr A6 (bv L) ∧ Below w.heap.size w wr) (fun _ _ i _ => 32 - (intOf i).toNat)
      case atStart => exact ⟨0, by omega, rfl, S1.out, SL.out, S2.out⟩
      case round =>
        clear S1 SL S2
        obtain ⟨k, hk, rfl, B1, BL, hbel⟩ := hrel
        have GL := Lib.hid BL
        clear BL
        by_cases hlt : k < 32
        · have hix := index_u8 Try.underlying33 S HS32.out k hlt
          obtain ⟨x, hx⟩ : ∃ x, x = S.getD k 0 := ⟨_, rfl⟩
          rw [← hx] at hix
          obtain ⟨p, hp⟩ : ∃ p, p = k / 4 := ⟨_, rfl⟩
          have ep : (k : Int) / 4 = (p : Int) := by omega
          have p0 : (0 : Int) ≤ (p : Int) := by omega
          have p1 : (p : Int) < 8 := by omega
          have k0 : (0 : Int) ≤ (k : Int) := by omega
          have k1 : (k : Int) < 32 := by omega
          have c0 := B1.cellu (k := p) (by rw [rdS_length]; omega)
          obtain ⟨y, hy⟩ : ∃ y, y = (rdS S k).getD p 0 := ⟨_, rfl⟩
          rw [← hy] at c0
          have f0 := B1.free p
          have HX := Lib.hid hx
          have HY := Lib.hid hy
          have HPK := Lib.hid hp
          have GB := Lib.hid B1
          clear hx hy hp B1
          have b0 : (0 : Int) ≤ (x.toNat : Int) := by omega
          go_wp2
          go_roundw
          case rel =>
            refine ⟨k + 1, by omega, by go_num, ?_, rd_far GL.out (grown_setCell _ _ _ _) (Nat.le_refl _), hbel.setCell hqw _⟩
            rw [rdS_step S HPK.out HX.out HY.out]
            exact GB.out.setv p _ (int_eq (by rw [Int.emod_eq_of_lt (a := (x.toNat : Int)) (by omega) (by have := x.toNat_lt; omega)]; exact onB_val y x))
          case measure => simp [intOf]; omega
        · have hk32 : k = 32 := by omega
          have S1 : Hid (Blk wr q (uv (overL firstL P0)) 28) := by
            have h := B1
            rw [hk32, HS.out, rdS_sha, ← HP0.out] at h
            exact h
          have S2 := Lib.hid hbel
          have k1 : ¬ (k : Int) < 32 := by omega
          clear B1 hbel hk32 hlt hk
          go_wp2_with fail
          refine (pad_any A6 (n2 + n') c6 L _ HLL.out (Nat.le_of_lt S1.out.lt) GL.out (by omega)).mono ?_
          rintro e w8 ⟨A8, n8, c8, rfl, ho8, bw8⟩
          have hl8 : (padL L).length = n8 := own_blen ho8
          have hn8 : n8 = padN (n2 + n') := by rw [← hl8, padL_length, HLL.out]
          have h648 : n8 % 64 = 0 := by rw [hn8]; exact padN_mod _
          have hbig : n2 + n' + 9 ≤ n8 := by rw [hn8]; exact padN_le _
          obtain ⟨g, rfl, hg1, hnc8, hcm8⟩ := own_addr ho8 (by omega)
          have hqg : q < g := by have := S1.out.lt; omega
          obtain ⟨P, hP⟩ : ∃ P, P = padL L := ⟨_, rfl⟩
          rw [← hP] at hl8 ho8
          have HPL := Lib.hid hl8
          have HP := Lib.hid hP
          obtain ⟨kp, hkp⟩ : ∃ kp, kp = n2 / 64 := ⟨_, rfl⟩
          have HKP : Hid (n2 = 64 * kp) := by show _ = _; have := H64'.out; omega
          have HON : Hid (overTo firstL P kp = overL firstL P0) := by
            show _ = _
            rw [hP, HLP.out]
            exact overTo_on P0 l' kp (by rw [HPL0.out]; exact HKP.out)
          have R1 := Lib.hid (S1.out.below bw8)
          have R2 := Lib.hid (S2.out.trans (bw8.mono S2.out.size))
          have R3 : Hid (Rf q w8 (some ⟨g, 0, none⟩) (bv P)) := Rf.of_own ho8 (Nat.lt_of_lt_of_le S1.out.lt (Nat.le_refl _))
          have RL := Lib.hid (rd_far GL.out (grown_of_below bw8 (row := some q)) (Nat.le_refl _))
          have H64 : Hid (n8 = 64 * (n8 / 64)) := by show _ = _; omega
          unfold maxLen at hcm8
          have x0 : decide (n8 < n2) = false := by simp; omega
          have x1 : ¬ (n8 : Int) < (n2 : Int) := by omega
          have x2 : ¬ (c8 : Int) = (n2 : Int) := by omega
          have x3 : (n2 : Int) ≤ (n8 : Int) := by omega
          have x4 : (n2 : Int) ≤ (c8 : Int) := by omega
          have x5 : (0 : Int) ≤ (n2 : Int) := by omega
          clear hl8 hP ho8 bw8 S1 S2 hn8 h648 hkp GL
          go_wp2_with fail
          go_loopw [10, 11] (fun v _ wr => ∃ (k o m d : Nat), v = .slice (some ⟨g, o, none⟩) m d ∧ m ≤ d ∧ d ≤ c8 ∧ Hid (m + 64 * k = n8) ∧ Hid (0 < m → o = 64 * k) ∧ Blk wr q (uv (overTo firstL P k)) 28 ∧ Rf q wr (some ⟨g, 0, none⟩) (bv P) ∧ Rd q wr A6 (bv L) ∧ Below w.heap.size w wr) (fun v _ _ => lenS v)
          case atStart => exact ⟨kp, n2, n8 - n2, c8 - n2, rfl, by omega, by omega, (by show n8 - n2 + 64 * kp = n8; have := HKP.out; omega), fun _ => HKP.out, by rw [HON.out]; exact R1.out, R3.out, RL.out, R2.out⟩
          case round =>
            clear R1 R2 R3 RL
            obtain ⟨k, o, m, d, rfl, hmd, hdc, HM, HO, B1, B2, BL, B3⟩ := hrel
            have GL := Lib.hid BL
            clear BL
            have G1 := Lib.hid B1
            have G2 := Lib.hid B2
            have G3 := Lib.hid B3
            clear B1 B2 B3
            by_cases hlt : 64 ≤ m
            · obtain ⟨wo, rfl⟩ : ∃ wo : World, wo = wr := ⟨_, rfl⟩
              have ho := HO.out (by omega)
              obtain ⟨cs, hcs⟩ : ∃ cs, cs = (P.drop o).take 64 := ⟨_, rfl⟩
              have hcl : cs.length = 64 := by rw [hcs, List.length_take, List.length_drop, HPL.out]; have := HM.out; omega
              obtain ⟨u, hu⟩ : ∃ u, u = overTo firstL P k := ⟨_, rfl⟩
              have HU8 : Hid (u.length = 8) := by show _ = _; rw [hu, overTo_length]; rfl
              have HU : Hid ((Try.prog.info? 28).map (·.size) = some (uv u).size) := by rw [uv_size, HU8.out]; exact info28
              have HCI : Hid ((Try.prog.info? 29).map (·.size) = some (bva cs).size) := by rw [bva_size, hcl]; exact info29
              have HC64 := Lib.hid hcl
              have HUU := Lib.hid hu
              have HOO := Lib.hid ho
              have HCS := Lib.hid hcs
              rw [← hu] at G1
              have hsrc : Hid (∀ j v, (bv cs)[j]? = some v → wo.cell? ((⟨g, o, none⟩ : Addr).add j) = some v) := by
                intro j v hv
                rw [hcs] at hv
                have h1 := bv_take_get hv
                rw [bv_drop, List.getElem?_drop] at h1
                obtain ⟨ad, e, _, hc⟩ := G2.out (o + j) v h1
                injection e with e
                subst e
                rw [add_head] at hc
                rw [Addr.add_mid]; exact hc
              have hql := G1.out.lt
              have d0 : (64 : Int) ≤ (d : Int) := by omega
              have m0 : (64 : Int) ≤ (m : Int) := by omega
              clear hcs hcl hu ho
              go_wp2_with first
                | (refine wpList_copy_splice rfl (.tmp 66) (.tmp 67) 22 22 rfl 5 Try.underlying22 info5 (some ⟨wo.heap.size, 0, none⟩) (some ⟨g, o, none⟩) 64 64 m d rfl rfl wo.heap.size 0 (bv (List.replicate 64 0)) 29 (heap_alloc_new _ _) (bv cs) (by rw [bv_length, HC64.out]; exact (Nat.min_eq_right hlt).symm) (fun _ => ⟨rfl, _, rfl, fun j v hv => (World.cell?_alloc_lt _ _ _ (World.block_lt_of_cell? _ _ (hsrc.out j v hv))).trans (hsrc.out j v hv)⟩) (by rw [bv_length, HC64.out]; simp [bv]) (bv_one _) wo.heap.size wo ((Below.refl _ _).alloc (Nat.le_refl _) _) (Nat.le_refl _) ?_
                   intro w2 hg2 hb2
                   have G4 : Hid (Blk w2 wo.heap.size (bva cs) 29) := by
                     have h := hg2.out
                     rw [splice_whole _ _ (by rw [bv_length, HC64.out]; simp [bv])] at h
                     exact h
                   have G1' := Lib.hid (G1.out.below hb2)
                   have G2' := Lib.hid (G2.out.grown (grown_of_below hb2))
                   have G3' := Lib.hid (G3.out.trans (hb2.mono G3.out.size))
                   have GL' := Lib.hid (rd_far GL.out (grown_of_below hb2 (row := some q)) (Nat.le_refl _))
                   clear G1 G2 G3 GL hg2 hb2 hsrc
                   have G1 := G1'
                   have G2 := G2'
                   have G3 := G3'
                   have GL := GL'
                   clear G1' G2' G3' GL')
                | refine wpList_load_row rfl 28 (.tmp 7) rfl q rfl 28 (uv u) (0, 0) _ G1.out Try.underlying28 rfl HU.out ?_
                | refine wpList_load_row rfl 29 (.tmp 11) rfl wo.heap.size rfl 29 (bva cs) (0, 0) _ G4.out Try.underlying29 rfl HCI.out ?_
              refine (compress_any u cs HU8.out HC64.out _).mono ?_
              rintro e w3 ⟨rfl, bw3⟩
              have Z1 := Lib.hid (G1.out.below bw3)
              have Z2 := Lib.hid (G2.out.grown (grown_of_below bw3))
              have Z4 := Lib.hid (G3.out.trans (bw3.mono G3.out.size))
              have ZL := Lib.hid (rd_far GL.out (grown_of_below bw3 (row := some q)) (Nat.le_refl _))
              clear G1 G2 G3 G4 GL bw3
              by_cases hc : d = 64
              · have hc1 : (d : Int) = 64 := by omega
                go_wp2_with (refine wpList_store_row rfl 28 (.tmp 7) (.tmp 71) rfl q (uv (compL u cs)) rfl rfl 28 (uv u) Z1.out (by rw [uv_size, compL_length, HU8.out]; exact info28) (by rw [uv_size, uv_size, compL_length]) (uv_one _) ?_
                             generalize hw9 : World.setRow _ _ _ = w9
                             have y1 : Blk w9 q (uv (compL u cs)) 28 := by rw [← hw9]; exact setRow_heap _ _ _ _ _ _ Z1.out
                             have y2 : Rf q w9 (some ⟨g, 0, none⟩) (bv P) := by rw [← hw9]; exact Z2.out.grown (grown_setRow _ _ _)
                             have y4 : Below w.heap.size w w9 := by rw [← hw9]; exact below_setRow Z4.out hqw _
                             have yl : Rd q w9 A6 (bv L) := by rw [← hw9]; exact rd_far ZL.out (grown_setRow _ _ _) (Nat.le_refl _)
                             have Y1 := Lib.hid y1
                             have Y2 := Lib.hid y2
                             have Y4 := Lib.hid y4
                             have YL := Lib.hid yl
                             clear y1 y2 y4 yl Z1 Z2 Z4 ZL hw9)
                go_roundw
                case rel =>
                  refine ⟨k + 1, o, m - 64, 0, ?_, by omega, by omega, (by have := HM.out; show m - 64 + 64 * (k + 1) = n8; omega), fun h => by omega, ?_, Y2.out, YL.out, Y4.out⟩
                  · rfl
                  · rw [overTo, ← HUU.out, ← HOO.out, ← HCS.out]; exact Y1.out
                case measure => show m - 64 < m; omega
              · have hc1 : ¬ (d : Int) = 64 := by omega
                go_wp2_with (refine wpList_store_row rfl 28 (.tmp 7) (.tmp 71) rfl q (uv (compL u cs)) rfl rfl 28 (uv u) Z1.out (by rw [uv_size, compL_length, HU8.out]; exact info28) (by rw [uv_size, uv_size, compL_length]) (uv_one _) ?_
                             generalize hw9 : World.setRow _ _ _ = w9
                             have y1 : Blk w9 q (uv (compL u cs)) 28 := by rw [← hw9]; exact setRow_heap _ _ _ _ _ _ Z1.out
                             have y2 : Rf q w9 (some ⟨g, 0, none⟩) (bv P) := by rw [← hw9]; exact Z2.out.grown (grown_setRow _ _ _)
                             have y4 : Below w.heap.size w w9 := by rw [← hw9]; exact below_setRow Z4.out hqw _
                             have yl : Rd q w9 A6 (bv L) := by rw [← hw9]; exact rd_far ZL.out (grown_setRow _ _ _) (Nat.le_refl _)
                             have Y1 := Lib.hid y1
                             have Y2 := Lib.hid y2
                             have Y4 := Lib.hid y4
                             have YL := Lib.hid yl
                             clear y1 y2 y4 yl Z1 Z2 Z4 ZL hw9)
                go_roundw
                case rel =>
                  refine ⟨k + 1, o + 64, m - 64, d - 64, rfl, by omega, by omega, (by have := HM.out; show m - 64 + 64 * (k + 1) = n8; omega), (fun _ => by have := HOO.out; omega), ?_, Y2.out, YL.out, Y4.out⟩
                  rw [overTo, ← HUU.out, ← HOO.out, ← HCS.out]; exact Y1.out
                case measure => show m - 64 < m; omega
            · have hm0 : m = 0 := by have := HM.out; have := H64.out; omega
              have hk : k = n8 / 64 := by have := HM.out; omega
              have hmb : ((m : Int) == 0) = true := by simp; omega
              obtain ⟨hs, hhs⟩ : ∃ hs, hs = overTo firstL P k := ⟨_, rfl⟩
              have HHS : Hid (toldB hs = shaL L) := by show _ = _; rw [hhs, shaL, overL, ← HP.out, HPL.out, hk]
              have HS8 : Hid (hs.length = 8) := by show _ = _; rw [hhs, overTo_length]; rfl
              have HHU : Hid ((Try.prog.info? 28).map (·.size) = some (uv hs).size) := by rw [uv_size, HS8.out]; exact info28
              rw [← hhs] at G1
              obtain ⟨b6, hb6⟩ : ∃ b6, b6 = wr.heap.size := ⟨_, rfl⟩
              have hb6' : wr.heap.size = b6 := hb6.symm
              have F1 := Lib.hid (G1.out.below ((Below.refl wr.heap.size wr).alloc (Nat.le_refl _) (.cells (bva (List.replicate 32 0)) 33)))
              have F2 : Hid (Blk (wr.alloc (.cells (bva (List.replicate 32 0)) 33)) b6 (bva (layB hs 0)) 33) := by show Blk _ _ _ _; rw [hb6]; exact heap_alloc_new _ _
              have FL := Lib.hid (rd_far GL.out (grown_of_below (row := some q) ((Below.refl wr.heap.size wr).alloc (Nat.le_refl _) (.cells (bva (List.replicate 32 0)) 33))) (Nat.le_refl _))
              have F3 := Lib.hid (G3.out.alloc G3.out.size (.cells (bva (List.replicate 32 0)) 33))
              have hbw : w.heap.size ≤ b6 := by have := G3.out.size; omega
              have hqb : q ≤ b6 := by have := G1.out.lt; omega
              clear hb6 hm0 hk hhs G1 G2 G3 GL
              go_wp2_with (refine wpList_load_row rfl 28 (.tmp 7) rfl q rfl 28 (uv hs) (0, 0) _ F1.out Try.underlying28 rfl HHU.out ?_)
              clear hb6'
              go_loopw [13, 14, 73] (fun _ _ i wr => ∃ k : Nat, k ≤ 8 ∧ i = .int .i64 k ∧ Blk wr b6 (bva (layB hs k)) 33 ∧ Rd q wr A6 (bv L) ∧ Below w.heap.size w wr) (fun _ _ i _ => 8 - (intOf i).toNat)
              case atStart => exact ⟨0, by omega, rfl, F2.out, FL.out, F3.out⟩
              case round =>
                clear F1 F2 F3 FL
                obtain ⟨k, hk, rfl, B1, BL, hbel⟩ := hrel
                have GL := Lib.hid BL
                clear BL
                by_cases hlt2 : k < 8
                · have hix := index_u32 Try.underlying28 hs HS8.out k hlt2
                  obtain ⟨x, hx⟩ : ∃ x, x = hs.getD k 0 := ⟨_, rfl⟩
                  rw [← hx] at hix
                  obtain ⟨p, hp⟩ : ∃ p, p = 4 * k := ⟨_, rfl⟩
                  have ep : 4 * (k : Int) = (p : Int) := by omega
                  have p0 : (0 : Int) ≤ (p : Int) := by omega
                  have p1 : (p : Int) + 3 < 32 := by omega
                  have k0 : (0 : Int) ≤ (k : Int) := by omega
                  have k1 : (k : Int) < 8 := by omega
                  have c0 := B1.cellb (k := p) (by rw [layB_length]; omega)
                  have c1 := B1.cellb (k := p + 1) (by rw [layB_length]; omega)
                  have c2 := B1.cellb (k := p + 2) (by rw [layB_length]; omega)
                  have c3 := B1.cellb (k := p + 3) (by rw [layB_length]; omega)
                  obtain ⟨v0, hv0⟩ : ∃ v, v = (layB hs k).getD p 0 := ⟨_, rfl⟩
                  obtain ⟨v1, hv1⟩ : ∃ v, v = (layB hs k).getD (p + 1) 0 := ⟨_, rfl⟩
                  obtain ⟨v2, hv2⟩ : ∃ v, v = (layB hs k).getD (p + 2) 0 := ⟨_, rfl⟩
                  obtain ⟨v3, hv3⟩ : ∃ v, v = (layB hs k).getD (p + 3) 0 := ⟨_, rfl⟩
                  rw [← hv0] at c0
                  rw [← hv1] at c1
                  rw [← hv2] at c2
                  rw [← hv3] at c3
                  have f0 := B1.free p
                  have f1 := B1.free (p + 1)
                  have f2 := B1.free (p + 2)
                  have f3 := B1.free (p + 3)
                  have HX := Lib.hid hx
                  have HPK := Lib.hid hp
                  have GB := Lib.hid B1
                  clear hx hp hv0 hv1 hv2 hv3 B1
                  have b0 : (0 : Int) ≤ (x.toNat : Int) := by omega
                  go_wp2
                  go_roundw
                  case rel =>
                    refine ⟨k + 1, by omega, by go_num, ?_, rd_far (rd_far (rd_far (rd_far GL.out (grown_setCell _ _ _ _) hqb) (grown_setCell _ _ _ _) hqb) (grown_setCell _ _ _ _) hqb) (grown_setCell _ _ _ _) hqb, (((hbel.setCell hbw _).setCell hbw _).setCell hbw _).setCell hbw _⟩
                    rw [layB_step hs HPK.out HX.out]
                    exact (((GB.out.setb p _ (int_eq (by0 x))).setb (p + 1) _ (int_eq (by1 x))).setb (p + 2) _ (int_eq (by2 x))).setb (p + 3) _ (int_eq (by3 x))
                  case measure => simp [intOf]; omega
                · obtain rfl : k = 8 := by omega
                  rw [layB_all, HHS.out] at B1
                  have HI : Hid ((Try.prog.info? 33).map (·.size) = some (bva (shaL L)).size) := by rw [bva_size, shaL_length]; exact info33
                  have heq : ∀ W, (Op.equalIn 10000 33 (.agg (bva (shaL L))) (.agg (bva (shaL L)))).run Try.prog W = .ok true W := fun W => eq_key _ (shaL_length L) W
                  have E1 := Lib.hid B1
                  have E2 := Lib.hid hbel
                  clear B1 hbel
                  go_wp2_with fail
                  refine wp_region_held_drew (S := fun w' => Blk w' b6 (bva (shaL L)) 33 ∧ Below w.heap.size w w' ∧ Rd q w' A6 (bv L) ∧ q ≤ w'.heap.size) (by kernel_rfl) ⟨E1.out, E2.out.drew, GL.out, Nat.le_of_lt (Nat.lt_of_le_of_lt hqb E1.out.lt)⟩ (fun hh => ?_)
                  have HH := Lib.hid hh
                  clear hh
                  refine wpAnyH_take (i := 0) (v := ?v0) rfl (by kernel_rfl) (by kernel_rfl) (by kernel_rfl) (fun _ _ _ h => h) (Or.inl ⟨by rfl, fun w' _ => ?y0⟩) HH.out ?_
                  case y0 => (go_simp; try with_reducible rfl)
                  refine wpAnyH_take (i := 1) (v := ?v1) rfl (by kernel_rfl) (by kernel_rfl) (by kernel_rfl) (fun _ _ _ h => h) (Or.inl ⟨by rfl, fun w' _ => ?y1⟩) HH.out ?_
                  case y1 => (go_simp; try with_reducible rfl)
                  refine wpAnyH_take (i := 2) (v := ?v2) rfl (by kernel_rfl) (by kernel_rfl) (by kernel_rfl) (fun _ _ _ h => h) (Or.inl ⟨by rfl, fun w' _ => ?y2⟩) HH.out ?_
                  case y2 => (go_simp; try with_reducible rfl)
                  refine wpAnyH_take (i := 3) (v := ?v3) rfl (by kernel_rfl) (by kernel_rfl) (by kernel_rfl) (fun _ _ _ h => h) (Or.inl ⟨by rfl, fun w' _ => ?y3⟩) HH.out ?_
                  case y3 => (go_simp; try with_reducible rfl)
                  refine wpAnyH_take (i := 4) (v := ?v4) rfl (by kernel_rfl) (by kernel_rfl) (by kernel_rfl) (fun _ _ _ h => h) (Or.inl ⟨by rfl, fun w' _ => ?y4⟩) HH.out ?_
                  case y4 => (go_simp; try with_reducible rfl)
                  simp only [List.getElem_toArray, List.getElem_cons_succ, List.getElem_cons_zero, Act.put, List.setIfInBounds_toArray, List.set_cons_zero, List.set_cons_succ]
                  refine wpAnyH_take (i := 6) (v := .agg (bva (shaL L))) rfl (by kernel_rfl) (by kernel_rfl) (by kernel_rfl) (fun _ _ _ h => h) (Or.inl ⟨by rfl, fun w' hw' => ?y6⟩) HH.out ?_
                  case y6 => exact exec_load 33 (.tmp 12) rfl rfl hw'.1 Try.underlying33 rfl HI.out
                  refine wpAnyH_ready (rs := [5]) (by kernel_rfl) (by simp) (AllReadyH.cons rfl (fun K hK => ?_) AllReadyH.nil)
                  go_simp
                  refine (sum_any A6 (n2 + n') c6 L _ HLL.out HH.out.2.2.2 HH.out.2.2.1 (by omega)).mono ?_
                  rintro e w3 ⟨rfl, bw3⟩
                  go_simp
                  refine hK.out _ _ ⟨HH.out.1.below bw3, HH.out.2.1.trans (bw3.mono HH.out.2.1.size), HH.out.2.2.1.below (bw3.mono HH.out.2.2.2), Nat.le_trans HH.out.2.2.2 bw3.size⟩ (fun hh => ?_)
                  have HH' := Lib.hid hh
                  clear hh hK K HH bw3
                  have HH := Lib.hid HH'.out
                  clear HH'
                  refine wpAnyH_take (i := 7) (v := ?v7) rfl (by kernel_rfl) (by kernel_rfl) (by kernel_rfl) (fun _ _ _ h => h) (Or.inl ⟨by rfl, fun w' _ => ?y7⟩) HH.out ?_
                  case y7 => (go_simp; try with_reducible rfl)
                  simp only [List.getElem_toArray, List.getElem_cons_succ, List.getElem_cons_zero, Act.put, List.setIfInBounds_toArray, List.set_cons_zero, List.set_cons_succ]
                  refine wpAnyH_take (i := 8) (v := ?v8) rfl (by kernel_rfl) (by kernel_rfl) (by kernel_rfl) (fun _ _ _ h => h) (Or.inl ⟨by rfl, fun w' _ => ?y8⟩) HH.out ?_
                  case y8 => (go_simp; try with_reducible rfl)
                  refine wpAnyH_take (i := 9) (v := ?v9) rfl (by kernel_rfl) (by kernel_rfl) (by kernel_rfl) (fun _ _ _ h => h) (Or.inl ⟨by rfl, fun w' _ => ?y9⟩) HH.out ?_
                  case y9 => (go_simp; try with_reducible rfl)
                  refine wpAnyH_done (by kernel_rfl) ?_ _
                  go_wp2
                  go_ret
                  exact ⟨rfl, HH.out.2.1⟩
    · have h3 : decide (300 < (n' : Int)) = true := by simp; omega
      have h4 : decide (300 < (n : Int)) = false := by simp; omega
      go_enter Try.func10, Try.ntmps10
      go_wp2_with fail
      refine (awake_any _).mono ?_
      rintro e w1 ⟨rfl, bw1⟩
      have H1 := Lib.hid bw1
      clear bw1
      go_wp2_with fail
      go_ret
      exact ⟨rfl, H1.out⟩
  · have h4 : decide (300 < (n : Int)) = true := by simp; omega
    go_enter Try.func10, Try.ntmps10
    go_wp2_with fail
    refine (awake_any _).mono ?_
    rintro e w1 ⟨rfl, bw1⟩
    have H1 := Lib.hid bw1
    clear bw1
    go_wp2_with fail
    go_ret
    exact ⟨rfl, H1.out⟩
theorem shaOnward_own : ownKnob Try.prog.godebug = none := by kernel_rfl
theorem shaOnward_laid : laidOutB Try.prog = true := by kernel_rfl

set_option maxRecDepth 100000 in
theorem shaOnward_lifted (os : Os) (started : os.Started) (H : Type) (enc : TypeId × Value → H) :
    ReturnsInHanded {} Try.checked os 10 .any (Rows.shaOnwardSpec.pre6 enc Try.prog Try.f10 Rows.shaOnwardRow.domain false) (Rows.shaOnwardSpec.post enc Try.prog Try.f10 false true false false) := by
  refine returnsInHanded_of_change (C := Try.checked) shaOnward_own started (by kernel_rfl) Try.func10
    (ChangeSpec.witness6 (enc := enc) (C := Try.checked) false ⟨#[], #[.slice none 0 0, .slice none 0 0], []⟩ 8 (by kernel_rfl) (by kernel_rfl) (by kernel_rfl) (by kernel_rfl)) ?_
  intro W base args ds gs before hval0 hW _ _
  have hval : ∀ (j : Nat) t v, Try.f10.params[j]? = some t → args[j]? = some v → Value.okWide Try.prog W .any base t v := hval0
  have hW' := hW
  obtain ⟨p, q, hA0, hV, rfl, hfz, hnd⟩ := hW
  have hA : DataW.TrodAll enc Try.prog W 0 (fun _ => true) true Try.f10.params.toList args.toList ds p := hA0
  rw [Try.params10] at hA hval
  obtain ⟨v0, vs0, d0, ds0, p0, q0, hargs, rfl, rfl, h0, r0⟩ := trodAll_cons hA
  obtain ⟨v1, vs1, d1, ds1, p1, q1, rfl, rfl, rfl, h1, r1⟩ := trodAll_cons r0
  obtain ⟨rfl, rfl, rfl⟩ := trodAll_nil r1
  obtain rfl : args = #[v0, v1] := by cases args; simp_all
  obtain ⟨rfl, rfl⟩ := trodVars_none hV
  obtain ⟨a0, n0, c0, rfl⟩ := okWide_slice Try.underlying22 (hval 0 22 v0 rfl rfl)
  have lt0 : ∀ x ∈ p0, x.block < W.heap.size := by obtain ⟨m, hm⟩ := h0; exact DataW.trod_lt m _ _ _ hm
  obtain ⟨l0, hl0, hc0, hm0, hr0⟩ := open_bytes Try.underlying22 Try.underlying5 (by kernel_rfl) h0
  obtain ⟨a1, n1, c1, rfl⟩ := okWide_slice Try.underlying22 (hval 1 22 v1 rfl rfl)
  have lt1 : ∀ x ∈ p1, x.block < W.heap.size := by obtain ⟨m, hm⟩ := h1; exact DataW.trod_lt m _ _ _ hm
  obtain ⟨l1, hl1, hc1, hm1, hr1⟩ := open_bytes Try.underlying22 Try.underlying5 (by kernel_rfl) h1
  clear hA0 hval0
  refine (shaOnward_any W a0 n0 c0 l0 hl0 hc0 hm0 hr0 a1 n1 c1 l1 hl1 hc1 hm1 hr1).mono fun e W' ⟨he, bel⟩ => ?_
  subst he
  exact ⟨_, rfl, _, _, _, [], _, [], hW', trodAll_mk1 (shut_bool Try.underlying4 _), (trodAll_cons_mk (Below.trod shaOnward_laid (by kernel_rfl) (of_decide_eq_true (by kernel_rfl)) h0 bel lt0) (trodAll_cons_mk (Below.trod shaOnward_laid (by kernel_rfl) (of_decide_eq_true (by kernel_rfl)) h1 bel lt1) trodAll_mk0)), rfl, bel.frame _, fun h => by cases h⟩

theorem shaOnward_holds : Rows.ShaOnwardSaid :=
  OpenClaim.holds_of_wide 10 Try.f10 rfl rfl rfl rfl rfl rfl rfl ⟨rfl, rfl, rfl, rfl, rfl⟩ rfl rfl rfl rfl rfl (by kernel_rfl) Try.func10 (by kernel_rfl)
    (of_decide_eq_true (by kernel_rfl)) (by unfold Func.isWrapper; rw [if_neg (of_decide_eq_false (by kernel_rfl))]; exact ⟨rfl, rfl⟩)
    (fun os started H enc _ => shaOnward_lifted os started H enc)

#print axioms shaOnward_holds

end Go.Proofs.Ytgmoccglldpmdaa
