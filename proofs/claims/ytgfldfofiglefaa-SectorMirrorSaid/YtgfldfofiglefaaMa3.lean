/-
  Texts of this seat, one behind the other: SxRUnpack, ConvB, SxSame, SxAwake, SxGood, Open, OpenA.
-/
import Derived.Laws.IdiomStrings
import Derived.Lib.Strings
import Derived.Test.YtgfldfofiglefaaRows
import Derived.Lib.SlBytesConst
import Derived.Lib.SmallJoins
import Derived.Deep.Slices
import Derived.OpenShut
import Derived.ProofKit
import Derived.Test.YtgfldfofiglefaaMa2
/-
  The contract of the reference's Unpack.
-/
namespace Go.Proofs.Ytgfldfofiglefaa.Sx
open Go.RowKit Kd
attribute [local go_sem ↓] Go.wp_at_zero Go.wp_at_succ
set_option maxRecDepth 100000 in
set_option maxHeartbeats 6400000 in
theorem runpack_any (a : Int) (s : List UInt8) (hs : s.length = 128) (w : World) :
    Calls Try.prog 55 #[.int .i64 a, .agg (bva s)] w (RetU (unpackS litSumL a s).1 (unpackS litSumL a s).2 (okS litSumL a s) w) := by
  have HS := Lib.hid hs
  obtain ⟨w2, hw2⟩ : ∃ w2, w2 = w.alloc (.cells (bva s) 38) := ⟨_, rfl⟩
  have b1 : Blk w2 w.heap.size (bva s) 38 := by rw [hw2]; exact heap_alloc_new _ _
  have B1 := Lib.hid b1
  have BB := Lib.hid (show Below w.heap.size w w2 from by rw [hw2]; exact (Below.refl _ _).alloc (Nat.le_refl _) _)
  have HIS : Hid ((Try.prog.info? 38).map (·.size) = some (bva s).size) := by rw [bva_size, hs]; exact info_sec
  obtain ⟨q, hq0⟩ : ∃ q, q = s.getD 24 0 := ⟨_, rfl⟩
  have hqn : sizeS s = q.toNat := by rw [sizeS, hq0]
  obtain ⟨n, hn⟩ : ∃ n : Nat, n = q.toNat := ⟨_, rfl⟩
  have hnb : n < 256 := by rw [hn]; exact UInt8.toNat_lt q
  have c24 := b1.cellb (k := 24) (by rw [hs]; omega)
  rw [← hq0, ← hn, hw2] at c24
  have HN := Lib.hid (show sizeS s = n by rw [hqn, hn])
  obtain ⟨U1, hU1⟩ : ∃ x, x = (unpackS litSumL a s).1 := ⟨_, rfl⟩
  obtain ⟨U2, hU2⟩ : ∃ x, x = (unpackS litSumL a s).2 := ⟨_, rfl⟩
  obtain ⟨U3, hU3⟩ : ∃ x, x = okS litSumL a s := ⟨_, rfl⟩
  rw [← hU1, ← hU2, ← hU3]
  by_cases hlong : 103 < n
  · have hd : decide ((103 : Int) < (n : Int)) = true := by simp; omega
    have ho := ok_long (f := litSumL) (a := a) (by rw [HN.out]; exact hlong)
    obtain rfl : U3 = false := by rw [hU3, ho]
    obtain rfl : U1 = 0 := by rw [hU1, unpackS, ho, if_neg (by simp)]
    obtain rfl : U2 = [] := by rw [hU2, unpackS, ho, if_neg (by simp)]
    clear hU1 hU2 hU3 ho b1 hs hq0 hqn hn hlong
    go_enter Try.func55, Try.ntmps55
    go_wp2_with fail
    rw [← hw2]
    go_ret3
    exact RetU.none BB.out
  · have hd : decide ((103 : Int) < (n : Int)) = false := by simp; omega
    have wn2 : IntKind.i64.wrap (25 + (n : Int)) = 25 + (n : Int) := IntWalk.i64_in _ (by omega)
    have hsl : ∀ W, (Instr.sliceAt 38 (.pointer (some ⟨w.heap.size, 0, none⟩)) (some (.int .i64 25)) (some (.int .i64 (25 + (n : Int)))) none).run Try.prog W = .ok (.slice (some ⟨w.heap.size, 25, none⟩) n 103) W := fun W => by
      have h := slice_sec W w.heap.size 25 (25 + n) (by omega) (by omega) (by omega)
      rw [show 25 + n - 25 = n by omega, Int.natCast_add] at h
      exact h
    have HSL := Lib.hid hsl
    have WN2 := Lib.hid wn2
    have h25 : n ≤ 103 := by omega
    have HNL := Lib.hid h25
    obtain ⟨g, hg⟩ : ∃ g, g = genS s := ⟨_, rfl⟩
    obtain ⟨b, hb⟩ : ∃ b, b = bodyS s := ⟨_, rfl⟩
    have HG := Lib.hid (show U64 g from by rw [hg]; exact genS_lt s)
    have HB3 := Lib.hid (show b.length = n by rw [hb, bodyS_length hs (by omega), HN.out])
    have HBR := Lib.hid (show ∀ W, Blk W w.heap.size (bva s) 38 → Rd W.heap.size W (some ⟨w.heap.size, 25, none⟩) (bv b) from fun W hW => by
      rw [hb, bodyS]; exact rd_takeS (rd_part hW 25) _)
    obtain ⟨m, hm⟩ : ∃ m, m = (s.drop 16).take 8 := ⟨_, rfl⟩
    have HM3 := Lib.hid (show m.length = 8 by rw [hm, List.length_take, List.length_drop, hs]; rfl)
    have HMG := Lib.hid (show Wi.getL (m.take 8) = g by rw [hg, genS, ← hm, List.take_of_length_le (by rw [HM3.out]; omega)])
    have HMC := Lib.hid (show ∀ j (h : j < 8), s.getD (16 + j) 0 = m[j]'(by rw [HM3.out]; exact h) from fun j h => by
      simp only [hm, List.getElem_take, List.getElem_drop]
      rw [List.getD_eq_getElem?_getD, List.getElem?_eq_getElem (by omega)]; rfl)
    have hu : unpackS litSumL a s = if okS litSumL a s then (g, b) else (0, []) := by rw [unpackS, hg, hb]
    have hu0 : okS litSumL a s = false → U1 = 0 ∧ U2 = [] ∧ U3 = false := fun h => by rw [hU1, hU2, hU3, hu, h, if_neg (by simp)]; exact ⟨rfl, rfl, rfl⟩
    have hu1 : okS litSumL a s = true → U1 = g ∧ U2 = b ∧ U3 = true := fun h => by rw [hU1, hU2, hU3, hu, h, if_pos rfl]; exact ⟨rfl, rfl, rfl⟩
    obtain ⟨p, hp⟩ : ∃ p, p = packS litSumL a g b := ⟨_, rfl⟩
    have HP3 := Lib.hid (show p.length = 128 by rw [hp]; exact packS_length litSumL_length)
    have HIP : Hid ((Try.prog.info? 38).map (·.size) = some (bva p).size) := by rw [bva_size, HP3.out]; exact info_sec
    obtain ⟨may, hmay⟩ : ∃ may, may = mayS a b := ⟨_, rfl⟩
    have HCP := Lib.hid (show ∀ W A c, Rd W.heap.size W A (bv b) → Calls Try.prog 52 #[.int .i64 a, .int .u64 g, .slice A n c] W (RetB (.tuple #[.agg (bva p), .bool may]) W) from fun W A c hr => by
      rw [hp, hmay]; exact rpack_any a g HG.out A n c b W HB3.out hr)
    have hok2 : may = true → okS litSumL a s = decide (p = s) := fun h => by rw [ok_pack (by rw [HN.out]; exact HNL.out) (by rw [← hb, ← hmay, h]), hp, hg, hb]
    have HE0 := Lib.hid (show may = false → U1 = 0 ∧ U2 = [] ∧ U3 = false from fun h => hu0 (ok_not (by rw [← hb, ← hmay, h])))
    have HE1 := Lib.hid (show may = true → p = s → U1 = g ∧ U2 = b ∧ U3 = true from fun h h' => hu1 (by rw [hok2 h, decide_eq_true h']))
    have HE2 := Lib.hid (show may = true → ¬ p = s → U1 = 0 ∧ U2 = [] ∧ U3 = false from fun h h' => hu0 (by rw [hok2 h, decide_eq_false h']))
    clear hp hmay hu hu0 hu1 hok2 hU1 hU2 hU3 hm
    obtain ⟨z, hz0⟩ : ∃ z : List UInt8, z = zeroS := ⟨_, rfl⟩
    have hz : ∀ W, (zeroValue 38).run Try.prog W = .ok (.agg (bva z)) W := fun _ => by rw [hz0]; kernel_rfl
    have HZ3 := Lib.hid (show z.length = 128 by rw [hz0]; exact zeroS_length)
    clear b1 hs hq0 hqn hn hlong hg hb hz0 hsl wn2
    go_enter Try.func55, Try.ntmps55
    go_wp2_with fail
    rw [← hw2]
    clear hw2 c24
    go_loopw [8, 9] (fun d i wr => ∃ j Z : Nat, j ≤ 8 ∧ i = .int .i64 ((16 + j : Nat) : Int) ∧ d = .int .u64 (Z : Int) ∧ Hid (Z = Wi.getL (m.take j)) ∧ wr = w2) (fun _ i _ => 24 - (intOf i).toNat)
    case atStart => exact ⟨0, 0, by omega, rfl, rfl, (show _ = _ from rfl), by first | rfl | trivial⟩
    case round =>
      obtain ⟨j, Z, hj, rfl, rfl, HZ, rfl⟩ := hrel
      obtain ⟨p', hp'⟩ : ∃ p' : Nat, p' = 16 + j := ⟨_, rfl⟩
      rw [← hp']
      have HPP := Lib.hid hp'
      by_cases hlt : j < 8
      · have k0 : (0 : Int) ≤ (p' : Int) := by omega
        have k1 : (p' : Int) < 24 := by omega
        have k2 : (p' : Int) < 128 := by omega
        have wj : IntKind.i64.wrap ((p' : Int) + 1) = ((16 + (j + 1) : Nat) : Int) := by rw [show ((p' : Int) + 1) = ((16 + (j + 1) : Nat) : Int) by omega]; exact IntWalk.i64_in _ (by omega)
        have HJ := Lib.hid hlt
        obtain ⟨x, hx⟩ : ∃ x, x = m[j]'(by rw [HM3.out]; exact hlt) := ⟨_, rfl⟩
        have c0 := B1.out.cellb (k := p') (by rw [HS.out]; omega)
        rw [hp', HMC.out j hlt, ← hx, ← hp'] at c0
        have hsm := Wi.getL_small (l := m) (k := j) (by rw [HM3.out]; exact hlt) (by rw [HM3.out]; omega)
        rw [← HZ.out] at hsm
        have HSM := Lib.hid (show U64 (Z * 256 + 255) from hsm)
        have HSS := Lib.hid (show Wi.getL (m.take (j + 1)) = Z * 256 + x.toNat by rw [Wi.getL_step (by rw [HM3.out]; exact hlt), ← HZ.out, hx])
        clear hx hlt hp' hsm
        go_wp2_with fail
        go_roundw
        case rel =>
          have h1 := HSM.out.int
          have h2 := UInt8.toNat_lt x
          exact ⟨j + 1, Z * 256 + x.toNat, HJ.out, by first | rfl | (exact int_eq (by omega)), int_eq (by
            rw [IntWalk.u64_in ((Z : Int) * 256) (by omega), IntWalk.u64_in (x.toNat : Int) (by omega), IntWalk.u64_in _ (by omega)]; omega), (by show _ = _; rw [HSS.out]), by first | rfl | trivial⟩
        case measure => (have := HJ.out; have := HPP.out; simp [intOf]; omega)
      · obtain rfl : j = 8 := by omega
        obtain rfl : g = Z := by rw [HZ.out, HMG.out]
        obtain rfl : p' = 24 := by omega
        have hsl := HSL.out
        have wn2 := WN2.out
        clear hlt hp' hj HZ
        go_wp2_with (at_builtin; apply Classical.byContradiction; intro hneg)
        refine hneg ?_
        clear hneg
        have hb0 : Below wr.heap.size wr (wr.alloc (.cells #[] 5)) := (Below.refl _ _).alloc (Nat.le_refl _) _
        have HB0 := Lib.hid hb0
        refine wpList_app _ rfl (.tmp 29) (.tmp 32) _ rfl Wi.bytesElt (base := wr.heap.size) (v := .slice (some ⟨wr.heap.size, 0, none⟩) 0 0) rfl (World.ownsRow_lit wr #[] 0 (Nat.le_refl _) (Nat.zero_le _) rfl) (m := n) rfl ((HBR.out _ B1.out).below hb0) (by rw [bv_length]; exact HB3.out) (bv_one _) (by have := HNL.out; omega) hb0.size ?_
        intro A4 c4 w4 ho4 hg4 _
        have hb4 := app_below hb0 (World.ownsRow_lit wr #[] 0 (Nat.le_refl _) (Nat.zero_le _) rfl) hg4 (Nat.le_refl _) hb0.size
        rw [Nat.zero_add] at ho4
        rw [show 0 + n = n from Nat.zero_add n]
        have O4 := Lib.hid (own_eq (own_more ho4 BB.out.size) rfl (show _ = bv b from List.nil_append _))
        have C1 := Lib.hid (B1.out.below hb4)
        have CB := Lib.hid (BB.out.trans (hb4.mono BB.out.size))
        clear ho4 hg4 hb4 hb0 HB0 B1 BB hsl
        go_wp2_with fail
        refine (HCP.out _ A4 c4 (Rd.own O4.out)).mono ?_
        rintro e w5 ⟨rfl, bw⟩
        have O5 := Lib.hid (own_below O4.out bw)
        have D1 := Lib.hid (C1.out.below bw)
        have DB := Lib.hid (CB.out.trans (bw.mono CB.out.size))
        clear bw C1 CB O4
        go_wp2_with (show wpList _ _ _ ({ dst := none, op := .store 38 (.tmp 11) (.tmp 39), type := _, pos := _, after := _, guard := _ } :: _) _ _; apply Classical.byContradiction; intro hneg)
        refine hneg ?_
        clear hneg
        refine wpList_store_row rfl 38 (.tmp 11) (.tmp 39) rfl w5.heap.size (bva p) rfl rfl 38 (bva z) (heap_alloc_new _ _) HIP.out (by rw [bva_size, bva_size, HP3.out, HZ3.out]) (bva_one _) ?_
        obtain ⟨w6, hw6⟩ : ∃ w6, w6 = (w5.alloc (.cells (bva z) 38)).setRow w5.heap.size (bva p) := ⟨_, rfl⟩
        rw [← hw6]
        obtain ⟨g6, hg6⟩ : ∃ g6, g6 = w5.heap.size := ⟨_, rfl⟩
        have hb6 : Below w5.heap.size w5 w6 := by rw [hw6]; exact below_new (Below.refl _ _) (Nat.le_refl _)
        have E1 := Lib.hid (D1.out.below hb6)
        have E2 := Lib.hid (show Blk w6 g6 (bva p) 38 from by rw [hw6, hg6]; exact blk_new _)
        have O6 := Lib.hid (own_below O5.out hb6)
        have EB := Lib.hid (DB.out.trans (hb6.mono DB.out.size))
        rw [← hg6]
        clear hw6 hg6 hb6 D1 DB O5
        cases may
        · go_wp2_with fail
          go_ret3
          obtain ⟨h1, h2, h3⟩ := HE0.out (by first | rfl | trivial)
          rw [h1, h2, h3]
          exact RetU.none EB.out
        · by_cases hps : p = s
          · have HEQ := Lib.hid (show ∀ W, (Op.equalIn 10000 38 (.agg (bva p)) (.agg (bva s))).run Try.prog W = .ok true W from fun W => by rw [eq_sec p s HP3.out HS.out, decide_eq_true hps])
            have heq := HEQ.out
            have HPS := Lib.hid hps
            clear hps
            go_wp2_with (first
              | (refine wpList_execg8 (o := { dst := some 44, op := .load 38 (.tmp 11), type := _, pos := _, after := _, guard := _ }) (v := .agg (bva p)) (w' := w6) rfl ?hl1 ?_; case hl1 => exact exec_load 38 (.tmp 11) rfl rfl E2.out Try.underlying38 rfl HIP.out)
              | (refine wpList_execg8 (o := { dst := some 45, op := .load 38 (.tmp 3), type := _, pos := _, after := _, guard := _ }) (v := .agg (bva s)) (w' := w6) rfl ?hl2 ?_; case hl2 => exact exec_load 38 (.tmp 3) rfl rfl E1.out Try.underlying38 rfl HIS.out))
            go_ret3
            obtain ⟨h1, h2, h3⟩ := HE1.out (by first | rfl | trivial) HPS.out
            rw [h1, h2, h3]
            exact ⟨A4, n, c4, rfl, O6.out, EB.out⟩
          · have HEQ := Lib.hid (show ∀ W, (Op.equalIn 10000 38 (.agg (bva p)) (.agg (bva s))).run Try.prog W = .ok false W from fun W => by rw [eq_sec p s HP3.out HS.out, decide_eq_false hps])
            have heq := HEQ.out
            have HPS := Lib.hid hps
            clear hps
            go_wp2_with (first
              | (refine wpList_execg8 (o := { dst := some 44, op := .load 38 (.tmp 11), type := _, pos := _, after := _, guard := _ }) (v := .agg (bva p)) (w' := w6) rfl ?hl1 ?_; case hl1 => exact exec_load 38 (.tmp 11) rfl rfl E2.out Try.underlying38 rfl HIP.out)
              | (refine wpList_execg8 (o := { dst := some 45, op := .load 38 (.tmp 3), type := _, pos := _, after := _, guard := _ }) (v := .agg (bva s)) (w' := w6) rfl ?hl2 ?_; case hl2 => exact exec_load 38 (.tmp 3) rfl rfl E1.out Try.underlying38 rfl HIS.out))
            go_ret3
            obtain ⟨h1, h2, h3⟩ := HE2.out (by first | rfl | trivial) HPS.out
            rw [h1, h2, h3]
            exact RetU.none EB.out
end Go.Proofs.Ytgfldfofiglefaa.Sx
/-
  string(b) of a row of bytes, nil let in.
-/
namespace Go.Proofs.Ytgfldfofiglefaa
open Go.RowKit
theorem conv_rd {P : Program} {w : World} {src dst e : TypeId} {B n c : Nat} {A : Option Addr} {l : List UInt8} (hs : P.underlying src = some (.slice e)) (he : P.underlying e = some (.int .u8)) (hd : P.underlying dst = some .string)
    (h : Rd B w A (bv l)) (hn : l.length = n) : (convert src dst (.slice A n c)).run P w = .ok (.string ⟨l.toArray⟩) w := by
  subst hn
  cases A with
  | some ad => exact run_convert_bytes_back w src dst e ad c l hs he hd (fun j hj => by
      obtain ⟨ad', e', _, hc⟩ := h.at_ hj
      injection e' with e'
      subst e'
      exact hc)
  | none =>
    have hl : l = [] := by
      cases l with
      | nil => rfl
      | cons b t => obtain ⟨_, h', _⟩ := h 0 _ rfl; cases h'
    subst hl
    show (convert src dst (.slice none 0 c)).run P w = _
    rw [run_convert_bytes_string w src dst e none 0 c hs he hd]
    trace_state
    rfl
end Go.Proofs.Ytgfldfofiglefaa
/-
  The contract of law11's same: are two texts one?
-/
namespace Go.Proofs.Ytgfldfofiglefaa.Sx
open Go.RowKit

theorem str_same {S T : ByteArray} {a b : List UInt8} (hS : S = ⟨a.toArray⟩) (hT : T = ⟨b.toArray⟩) : (S.toList == T.toList) = decide (a = b) := by
  have e1 : S.toList = a := by rw [hS, Lib.toList_data, List.toList_toArray]
  have e2 : T.toList = b := by rw [hT, Lib.toList_data, List.toList_toArray]
  rw [e1, e2, Bool.eq_iff_iff, beq_iff_eq, decide_eq_true_iff]
set_option maxHeartbeats 800000 in
theorem same_any (A A' : Option Addr) (n n' c c' : Nat) (a b : List UInt8) (w : World) (hn : a.length = n) (hn' : b.length = n') {B B' : Nat} (ha : Rd B w A (bv a)) (hb : Rd B' w A' (bv b)) :
    Calls Try.prog 53 #[.slice A n c, .slice A' n' c'] w (fun e w' => e = .returned (.bool (decide (a = b))) ∧ w' = w) := by
  obtain ⟨S, hS⟩ : ∃ S : ByteArray, S = ⟨a.toArray⟩ := ⟨_, rfl⟩
  obtain ⟨T, hT⟩ : ∃ T : ByteArray, T = ⟨b.toArray⟩ := ⟨_, rfl⟩
  have h1 : (convert 71 9 (.slice A n c)).run Try.prog w = .ok (.string S) w := by rw [hS]; exact conv_rd (e := 5) Try.underlying71 Try.underlying5 Try.underlying9 ha hn
  have h2 : (convert 71 9 (.slice A' n' c')).run Try.prog w = .ok (.string T) w := by rw [hT]; exact conv_rd (e := 5) Try.underlying71 Try.underlying5 Try.underlying9 hb hn'
  have hs := str_same hS hT
  have HS := Lib.hid hs
  clear hS hT hn hn' ha hb hs
  go_enter Try.func53, Try.ntmps53
  go_wp2_with fail
  go_ret
  exact ⟨by first | rfl | (rw [HS.out]; rfl), rfl⟩
end Go.Proofs.Ytgfldfofiglefaa.Sx
/-
  The contract of law11's awake: a body, there and back.
-/
namespace Go.Proofs.Ytgfldfofiglefaa.Sx
open Go.RowKit Kd
attribute [local go_sem ↓] Go.wp_at_zero Go.wp_at_succ
def abc : List UInt8 := [97, 98, 99]
def abcS : List UInt8 := sealedS litSumL 5 7 abc
theorem abcS_length : abcS.length = 128 := sealedS_length litSumL_length (by decide)
theorem abc_unpack : unpackS litSumL 5 abcS = (7, abc) := unpack_sealed litSumL_length (by decide) (by decide)
theorem abc_ok : okS litSumL 5 abcS = true := ok_sealed litSumL_length (by decide) (by decide)
set_option maxRecDepth 100000 in
theorem abc_other : okS litSumL 6 abcS = false := by decide +kernel
theorem abc_size : abcS.getD 24 0 = 3 := by decide +kernel
theorem makeL_info : (Try.prog.info? 5).map (fun i => (i.zero, i.size, i.bytes)) = some (some (.int .u8 0), 1, 1) := by kernel_rfl
theorem rd_mark (w : World) (l : List UInt8) (t : TypeId) (fr : Nat × Nat) : Rd (w.heap.size + 1) (w.alloc (.cells (bv l).toArray t fr)) (some ⟨w.heap.size, 0, none⟩) (bv l) := fun k u hu =>
  ⟨_, rfl, Nat.lt_succ_self _, by rw [add_head, World.cell?_alloc_mark, List.getElem?_toArray]; exact hu⟩
theorem build_lit0 (W : World) : (Instr.build 98 #[]).run Try.prog W = .ok (.agg zeroLit) W := by kernel_rfl
set_option maxRecDepth 100000 in
set_option maxHeartbeats 6400000 in
theorem awake_any (w : World) : Calls Try.prog 50 #[] w (RetB (.bool true) w) := by
  obtain ⟨z, hz0⟩ : ∃ z : List UInt8, z = zeroS := ⟨_, rfl⟩
  have hz : ∀ W, (zeroValue 38).run Try.prog W = .ok (.agg (bva z)) W := fun _ => by rw [hz0]; kernel_rfl
  have HZ3 := Lib.hid (show z.length = 128 by rw [hz0]; exact zeroS_length)
  have HIZ : Hid ((Try.prog.info? 38).map (·.size) = some (bva z).size) := by rw [bva_size, HZ3.out]; exact info_sec
  obtain ⟨y, hy⟩ : ∃ y, y = abcS := ⟨_, rfl⟩
  have HY3 := Lib.hid (show y.length = 128 by rw [hy]; exact abcS_length)
  have HIY : Hid ((Try.prog.info? 38).map (·.size) = some (bva y).size) := by rw [bva_size, HY3.out]; exact info_sec
  have HY24 := Lib.hid (show y.getD 24 0 = 3 by rw [hy]; exact abc_size)
  obtain ⟨cz, hcz⟩ : ∃ cz, cz = zeroLit := ⟨_, rfl⟩
  have hzl : Try.zeroCells98 = cz := by rw [hcz]; kernel_rfl
  have kc := fun (w : World) (C : Array Value) (n c : Nat) => Lib.run_convert_bytes_const (P := Try.prog) w 71 5 C n c Try.underlying71 Try.underlying5
  have HBL := Lib.hid (show ∀ W, (Instr.build 98 #[]).run Try.prog W = .ok (.agg cz) W from fun W => by rw [hcz]; exact build_lit0 W)
  have HCP := Lib.hid (show ∀ W A c, Rd W.heap.size W A (bv abc) → Calls Try.prog 51 #[.iface 98 (.agg cz), .int .i64 5, .int .u64 7, .slice A 3 c] W (RetB (.tuple #[.agg (bva y), .bool true]) W) from fun W A c hr => by
    rw [hcz, hy]; exact pack_any litS 5 7 (by decide) A 3 c abc W rfl hr)
  have HCU := Lib.hid (show ∀ W, Calls Try.prog 54 #[.iface 98 (.agg cz), .int .i64 5, .agg (bva y)] W (RetU 7 abc true W) from fun W => by
    have h := unpack_any litS 5 y HY3.out W
    rw [show litS.f = litSumL from rfl, hy, abc_unpack, abc_ok] at h
    rw [hcz, hy]; exact h)
  have HCV := Lib.hid (show ∀ W, Calls Try.prog 54 #[.iface 98 (.agg cz), .int .i64 6, .agg (bva y)] W (RetU 0 [] false W) from fun W => by
    have h := unpack_any litS 6 y HY3.out W
    rw [show litS.f = litSumL from rfl, hy, unpackS, abc_other, if_neg (by simp)] at h
    rw [hcz, hy]; exact h)
  have HCL := Lib.hid (show ∀ W A c, Calls Try.prog 51 #[.iface 98 (.agg cz), .int .i64 5, .int .u64 7, .slice A 104 c] W (RetB (.tuple #[.agg (bva z), .bool false]) W) from fun W A c => by
    rw [hz0]; exact pack_no2 5 7 A 104 c W 98 (.agg cz) (by omega) (by omega) (by omega))
  obtain ⟨i0, hi, hi0, hi1, hi2⟩ := info_parts makeL_info
  clear hz0 hy hcz
  go_enter Try.func50, Try.ntmps50
  go_wp2_with (refine wpList_build rfl 98 #[] rfl (v := .agg cz) ?hbld ?_; case hbld => exact HBL.out _)
  refine (HCP.out _ _ _ (Rd.more (rd_mark w abc 5 (3, 4)) (by simp))).mono ?_
  rintro e w1 ⟨rfl, bw⟩
  have BW := Lib.hid (show Below w.heap.size w w1 from ((Below.refl _ _).alloc (Nat.le_refl _) _).trans (bw.mono (by simp)))
  clear bw
  go_wp2_with (show wpList _ _ _ ({ dst := none, op := .store 38 (.tmp 1) (.tmp 17), type := _, pos := _, after := _, guard := _ } :: _) _ _; apply Classical.byContradiction; intro hneg)
  refine hneg ?_
  clear hneg
  refine wpList_store_row rfl 38 (.tmp 1) (.tmp 17) rfl w1.heap.size (bva y) rfl rfl 38 (bva z) (heap_alloc_new _ _) HIY.out (by rw [bva_size, bva_size, HY3.out, HZ3.out]) (bva_one _) ?_
  obtain ⟨w2, hw2⟩ : ∃ w2, w2 = (w1.alloc (.cells (bva z) 38)).setRow w1.heap.size (bva y) := ⟨_, rfl⟩
  rw [← hw2]
  obtain ⟨g, hg⟩ : ∃ g, g = w1.heap.size := ⟨_, rfl⟩
  have B1 := Lib.hid (show Blk w2 g (bva y) 38 from by rw [hw2, hg]; exact blk_new _)
  have BB := Lib.hid (show Below w.heap.size w w2 from by rw [hw2]; exact below_new BW.out BW.out.size)
  rw [← hg]
  clear hw2 hg BW
  go_wp2_with (first
    | (refine wpList_build rfl 98 #[] rfl (v := .agg cz) ?hbld ?_; case hbld => exact HBL.out _)
    | (refine wpList_load_row rfl 38 (.tmp 1) rfl g rfl 38 (bva y) (0, 0) _ B1.out Try.underlying38 rfl HIY.out ?_))
  refine (HCU.out _).mono ?_
  rintro e w3 ⟨A3, n3, c3, rfl, ho3, hb3⟩
  obtain rfl : 3 = n3 := by have := own_blen ho3; exact this
  have O3 := Lib.hid (own_more ho3 BB.out.size)
  have C1 := Lib.hid (B1.out.below hb3)
  have CB := Lib.hid (BB.out.trans (hb3.mono BB.out.size))
  clear ho3 hb3 B1 BB
  go_wp2_with (first
    | (refine wpList_build rfl 98 #[] rfl (v := .agg cz) ?hbld ?_; case hbld => exact HBL.out _)
    | (refine wpList_load_row rfl 38 (.tmp 1) rfl g rfl 38 (bva y) (0, 0) _ C1.out Try.underlying38 rfl HIY.out ?_))
  refine (HCV.out _).mono ?_
  rintro e w4 ⟨A4, n4, c4, rfl, ho4, hb4⟩
  have O4 := Lib.hid (own_below O3.out hb4)
  have D1 := Lib.hid (C1.out.below hb4)
  have DB := Lib.hid (CB.out.trans (hb4.mono CB.out.size))
  clear ho4 hb4 C1 CB O3
  go_wp2_with (first
    | (refine wpList_build rfl 98 #[] rfl (v := .agg cz) ?hbld ?_; case hbld => exact HBL.out _)
    | (at_make; refine wpList_make_full _ rfl _ _ _ rfl w4.heap.size 5 i0 _ 1 Try.underlying71 hi hi0 hi1 .i64 .i64 _ _ 104 rfl rfl rfl rfl ?_ ?_ ?_ ?_; (rw [hi2]; omega); (unfold maxLen; omega); (exact Nat.le_refl _); intro w5 hown hg))
  have hb5 : Below w4.heap.size w4 w5 := (Below.refl _ _).grown hg (Nat.le_refl _) (fun _ h => by cases h)
  have O5 := Lib.hid (own_below O4.out hb5)
  have E1 := Lib.hid (D1.out.below hb5)
  have EB := Lib.hid (DB.out.trans (hb5.mono DB.out.size))
  clear hown hg hb5 D1 DB O4
  refine (HCL.out _ _ _).mono ?_
  rintro e w6 ⟨rfl, bw⟩
  have O6 := Lib.hid (own_below O5.out bw)
  have F1 := Lib.hid (E1.out.below bw)
  have FB := Lib.hid (EB.out.trans (bw.mono EB.out.size))
  clear bw O5 E1 EB
  go_wp2_with (show wpList _ _ _ ({ dst := none, op := .store 38 (.tmp 9) (.tmp 40), type := _, pos := _, after := _, guard := _ } :: _) _ _; apply Classical.byContradiction; intro hneg)
  refine hneg ?_
  clear hneg
  refine wpList_store_row rfl 38 (.tmp 9) (.tmp 40) rfl w6.heap.size (bva z) rfl rfl 38 (bva z) (heap_alloc_new _ _) HIZ.out (by rw [bva_size]) (bva_one _) ?_
  obtain ⟨w7, hw7⟩ : ∃ w7, w7 = (w6.alloc (.cells (bva z) 38)).setRow w6.heap.size (bva z) := ⟨_, rfl⟩
  rw [← hw7]
  have hb7 : Below w6.heap.size w6 w7 := by rw [hw7]; exact below_new (Below.refl _ _) (Nat.le_refl _)
  have G1 := F1.out.below hb7
  have c24 := G1.cellb (k := 24) (by rw [HY3.out]; omega)
  rw [HY24.out] at c24
  have GB := Lib.hid (FB.out.trans (hb7.mono FB.out.size))
  have hcv : (convert 71 9 (.slice A3 3 c3)).run Try.prog w7 = .ok (.string ⟨#[97, 98, 99]⟩) w7 := conv_rd (e := 5) Try.underlying71 Try.underlying5 Try.underlying9 (Rd.own (own_below O6.out hb7)) rfl
  clear hw7 hb7 F1 FB G1 O6
  go_wp2_with fail
  go_ret
  exact ⟨by first | rfl | trace_state, GB.out⟩
end Go.Proofs.Ytgfldfofiglefaa.Sx
/-
  The contract of sector.Good, and of the function that it answers.
-/
namespace Go.Proofs.Ytgfldfofiglefaa.Sx
open Go.RowKit Kd
attribute [local go_sem ↓] Go.wp_at_zero Go.wp_at_succ
/-- Good tells a function that keeps the cipher in a box of its own. -/
theorem good_iface (T : TypeId) (x : Value) (w : World) : Calls Try.prog 56 #[.iface T x] w (fun e w' => e = .returned (.func (.func 106) #[] #[.pointer (some ⟨w.heap.size, 0, none⟩)]) ∧ w' = w.alloc (.cells #[.iface T x] 159)) := by
  go_enter Try.func56, Try.ntmps56
  go_wp2_with fail
  go_ret
  exact ⟨rfl, rfl⟩
theorem good_nil (w : World) : Calls Try.prog 56 #[.nilIface] w (fun e w' => e = .returned (.func (.func 106) #[] #[.pointer (some ⟨w.heap.size, 0, none⟩)]) ∧ w' = w.alloc (.cells #[.nilIface] 159)) := by
  go_enter Try.func56, Try.ntmps56
  go_wp2_with fail
  go_ret
  exact ⟨rfl, rfl⟩
set_option maxRecDepth 100000 in
set_option maxHeartbeats 3200000 in
theorem goodf_any (v : Value) (ok : Bool) (n : Int) (x : List UInt8) (hx : x.length = 128) (b : Nat) (w : World) (hb : Blk w b #[v] 159) (g : Nat) (l : List UInt8)
    (hU : ∀ W, Calls Try.prog 54 #[v, .int .i64 n, .agg (bva x)] W (RetU g l ok W)) :
    Calls Try.prog 106 #[.int .i64 n, .agg (bva x), .pointer (some ⟨b, 0, none⟩)] w (RetB (.bool ok) w) := by
  obtain ⟨w2, hw2⟩ : ∃ w2, w2 = w.alloc (.cells (bva x) 38) := ⟨_, rfl⟩
  have B1 := Lib.hid (show Blk w2 w.heap.size (bva x) 38 from by rw [hw2]; exact heap_alloc_new _ _)
  have hbb : Below w.heap.size w w2 := by rw [hw2]; exact (Below.refl _ _).alloc (Nat.le_refl _) _
  have BB := Lib.hid hbb
  have c0 : (w.alloc (.cells (bva x) 38)).cell? ⟨b, 0, none⟩ = some v := by rw [← hw2]; exact (hb.below hbb).cell 0
  have HIX : Hid ((Try.prog.info? 38).map (·.size) = some (bva x).size) := by rw [bva_size, hx]; exact info_sec
  have HU := Lib.hid hU
  clear hU hb hbb hx
  go_enter Try.func106, Try.ntmps106
  go_wp2_with (refine wpList_load_row rfl 38 (.tmp 4) rfl w.heap.size rfl 38 (bva x) (0, 0) _ ?hg Try.underlying38 rfl HIX.out ?_; case hg => (rw [← hw2]; exact B1.out))
  rw [← hw2]
  clear hw2 c0
  refine (HU.out w2).mono ?_
  rintro e w3 ⟨A, k, c, rfl, _, hb3⟩
  have CB := Lib.hid (BB.out.trans (hb3.mono BB.out.size))
  clear hb3 BB B1
  go_wp2_with fail
  go_ret
  exact ⟨rfl, CB.out⟩
theorem goodf_enter (args : Array Value) (W : World) : (callFunc 106 args).run Try.prog W = .ok (.enter 106 args) W := by kernel_rfl
end Go.Proofs.Ytgfldfofiglefaa.Sx
/-
  How arguments that came in are opened: a []byte, a slice of them, and so on, as what my words say of them.
-/
namespace Go.Proofs.Ytgfldfofiglefaa
open Go.RowKit Go.ChangeShapes Go.WideShapes

/-- The byte of a number. -/
def byteOf (n : Int) : UInt8 := UInt8.ofNat n.toNat
theorem byteOf_val {n : Int} (h : (Lit.int .u8 n).wf = true) : ((byteOf n).toNat : Int) = n := by
  have hb := bounds_u8 h
  unfold byteOf
  rw [UInt8.toNat_ofNat']
  omega

section
variable {H : Type} {enc : TypeId × Value → H} {P : Program} {w : World} {base : Nat} {spare : Nat → Bool} {held : Bool}

theorem isB_of_trod {t e fuel : Nat} {v : Value} {x : DataW H × List MemPlace} (ht : P.underlying t = some (.slice e)) (he : P.underlying e = some (.int .u8)) (hc : P.cellsOf e = 1)
    (h : DataW.trod enc P w base spare held fuel t [v] = some x) : ∃ l, IsB w.heap.size w v l := by
  rcases open_ints ht he hc h with ⟨hcs, _⟩ | ⟨a, len, cap, zs, hcs, _, hl, hm, hz, _, hcell, hwz⟩
  · simp only [List.cons.injEq, and_true] at hcs
    subst hcs
    exact ⟨[], none, 0, rfl, Nat.le_refl _, Nat.zero_le _, Rd.none⟩
  · simp only [List.cons.injEq, and_true] at hcs
    subst hcs
    have hlz : len ≤ zs.length := by rw [hz]; split <;> omega
    have hlen : ((zs.take len).map byteOf).length = len := by simp; omega
    refine ⟨(zs.take len).map byteOf, some a, cap, by rw [hlen], by omega, hm, fun k u hu => ?_⟩
    have hk : k < len := by
      have := (List.getElem?_eq_some_iff.1 hu).1
      rw [bv_length, hlen] at this
      exact this
    have hkz : k < zs.length := by omega
    have hg := hcell k hkz
    have hd : zs.getD k 0 = zs[k] := by simp [List.getD, hkz]
    have hw := hwz _ (List.getElem_mem hkz)
    have hb := World.block_lt_of_cell? _ _ hg
    rw [add_block] at hb
    refine ⟨a, rfl, hb, ?_⟩
    rw [hg, hd]
    have e2 : (bv ((zs.take len).map byteOf))[k]? = some (.int .u8 zs[k]) := by
      rw [bv_get (by rw [hlen]; exact hk)]
      simp only [List.getElem_map, List.getElem_take]
      rw [byteOf_val hw]
    rw [← hu, e2]

theorem isL_of_trod {α : Type} {R : Value → α → Prop} {t e fuel : Nat} {v : Value} {x : DataW H × List MemPlace} (ht : P.underlying t = some (.slice e)) (hc : P.cellsOf e = 1)
    (each : ∀ (n : Nat) (u : Value) (y : DataW H × List MemPlace), DataW.trod enc P w base spare held n e [u] = some y → ∃ l, R u l)
    (h : DataW.trod enc P w base spare held fuel t [v] = some x) : ∃ ls, IsL w.heap.size w R v ls := by
  rcases Go.Deep.open_slice1 ht hc h with ⟨hcs, _⟩ | ⟨a, len, cap, m, n, V, D, Pl, hcs, _, hl, hm, hmm, _, hx⟩
  · simp only [List.cons.injEq, and_true] at hcs
    subst hcs
    exact ⟨[], none, 0, rfl, Nat.le_refl _, Nat.zero_le _, RdL.none⟩
  · simp only [List.cons.injEq, and_true] at hcs
    subst hcs
    have hlm : len ≤ m := by rw [hmm]; split <;> omega
    have hall : ∀ j, j ≤ len → ∃ ls : List α, ls.length = j ∧ ∀ (k : Nat) (l : α), ls[k]? = some l → R (V k) l := by
      intro j
      induction j with
      | zero => exact fun _ => ⟨[], rfl, fun k l hk => by simp at hk⟩
      | succ j ih =>
        intro hj
        obtain ⟨ls, hls, hR⟩ := ih (by omega)
        obtain ⟨l, hl'⟩ := each n (V j) _ (hx j (by omega)).2
        refine ⟨ls ++ [l], by simp [hls], fun k l' hk => ?_⟩
        rcases Nat.lt_trichotomy k j with hlt | rfl | hgt
        · rw [List.getElem?_append_left (by omega)] at hk
          exact hR k l' hk
        · rw [List.getElem?_append_right (by omega), hls, Nat.sub_self] at hk
          injection hk with hk
          subst hk
          exact hl'
        · rw [List.getElem?_eq_none (by simp; omega)] at hk
          cases hk
    obtain ⟨ls, hls, hR⟩ := hall len (Nat.le_refl _)
    refine ⟨ls, some a, cap, by rw [hls], by omega, hm, (List.range len).map V, by simp [hls], fun k u hu => ?_, fun k u l hu hl' => ?_⟩
    · have hk : k < len := by have := (List.getElem?_eq_some_iff.1 hu).1; simpa using this
      have hg := (hx k (by omega)).1
      have hb := World.block_lt_of_cell? _ _ hg
      rw [add_block] at hb
      have e2 : ((List.range len).map V)[k]? = some (V k) := by simp [hk]
      exact ⟨a, rfl, hb, by rw [hg, ← hu, e2]⟩
    · have hk : k < len := by have := (List.getElem?_eq_some_iff.1 hu).1; simpa using this
      have e2 : ((List.range len).map V)[k]? = some (V k) := by simp [hk]
      rw [e2] at hu
      injection hu with hu
      subst hu
      exact hR k l hl'

/-- A []byte that came in. -/
theorem open_bytes {t e : Nat} {a : Option Addr} {len cap : Nat} {d : DataW H} {ps : List MemPlace} (ht : P.underlying t = some (.slice e)) (he : P.underlying e = some (.int .u8)) (hc : P.cellsOf e = 1)
    (h : DataW.Trod enc P w base spare held t (.slice a len cap) d ps) : ∃ l : List UInt8, l.length = len ∧ len ≤ cap ∧ cap ≤ maxLen ∧ Rd w.heap.size w a (bv l) := by
  obtain ⟨fuel, hf⟩ := h
  obtain ⟨l, A, c, hv, h1, h2, h3⟩ := isB_of_trod ht he hc hf
  injection hv with e1 e2 e3
  subst e1; subst e2; subst e3
  exact ⟨l, rfl, h1, h2, h3⟩
/-- A [][]byte that came in. -/
theorem open_rows {t s e : Nat} {a : Option Addr} {len cap : Nat} {d : DataW H} {ps : List MemPlace} (ht : P.underlying t = some (.slice s)) (hs : P.underlying s = some (.slice e)) (he : P.underlying e = some (.int .u8))
    (hcs : P.cellsOf s = 1) (hc : P.cellsOf e = 1)
    (h : DataW.Trod enc P w base spare held t (.slice a len cap) d ps) : ∃ ls : List (List UInt8), ls.length = len ∧ len ≤ cap ∧ cap ≤ maxLen ∧ RdB w.heap.size w a ls := by
  obtain ⟨fuel, hf⟩ := h
  obtain ⟨ls, A, c, hv, h1, h2, h3⟩ := isL_of_trod (R := IsB w.heap.size w) ht hcs (fun _ _ _ hy => isB_of_trod hs he hc hy) hf
  injection hv with e1 e2 e3
  subst e1; subst e2; subst e3
  exact ⟨ls, rfl, h1, h2, h3⟩
/-- A [][][]byte that came in. -/
theorem open_rows3 {t r s e : Nat} {a : Option Addr} {len cap : Nat} {d : DataW H} {ps : List MemPlace} (ht : P.underlying t = some (.slice r)) (hr : P.underlying r = some (.slice s)) (hs : P.underlying s = some (.slice e)) (he : P.underlying e = some (.int .u8))
    (hcr : P.cellsOf r = 1) (hcs : P.cellsOf s = 1) (hc : P.cellsOf e = 1)
    (h : DataW.Trod enc P w base spare held t (.slice a len cap) d ps) : ∃ ls : List (List (List UInt8)), ls.length = len ∧ len ≤ cap ∧ cap ≤ maxLen ∧ RdL w.heap.size w (IsL w.heap.size w (IsB w.heap.size w)) a ls := by
  obtain ⟨fuel, hf⟩ := h
  obtain ⟨ls, A, c, hv, h1, h2, h3⟩ := isL_of_trod (R := IsL w.heap.size w (IsB w.heap.size w)) ht hcr (fun _ _ _ hy => isL_of_trod hr hcs (fun _ _ _ hz => isB_of_trod hs he hc hz) hy) hf
  injection hv with e1 e2 e3
  subst e1; subst e2; subst e3
  exact ⟨ls, rfl, h1, h2, h3⟩
end

end Go.Proofs.Ytgfldfofiglefaa
/-
  How an array of numbers that came in by value is opened: its numbers, as a list.
-/
namespace Go.Proofs.Ytgfldfofiglefaa
open Go.RowKit Go.ChangeShapes Go.WideShapes

section
variable {H : Type} {enc : TypeId × Value → H} {P : Program} {w : World} {r : Reach} {b0 base : Nat} {spare : Nat → Bool} {held : Bool}

theorem open_arr {t e n : Nat} {k : IntKind} {v : Value} {d : DataW H} {ps : List MemPlace} (ht : P.underlying t = some (.array n e)) (he : P.underlying e = some (.int k)) (hc : P.cellsOf e = 1) (hn : P.cellsOf t = n)
    (hval : Value.okWide P w r b0 t v) (h : DataW.Trod enc P w base spare held t v d ps) :
    ∃ zs : List Int, zs.length = n ∧ v = .agg (zs.map (Value.int k)).toArray ∧ ∀ z ∈ zs, (Lit.int k z).wf = true := by
  obtain ⟨cs, rfl, hsz⟩ : ∃ cs, v = .agg cs ∧ cs.size = n := by
    have h1 := hval
    simp only [Value.okWide, ht] at h1
    obtain ⟨cs, e1, e2, _⟩ := h1
    exact ⟨cs, e1, by rw [e2, hn]⟩
  obtain ⟨fuel, hf⟩ := h
  obtain ⟨xs, m, _, _, hl, hx, hel⟩ := DataW.trod_array ht hf
  have each : ∀ i (hi : i < cs.size), ∃ z, cs[i] = .int k z ∧ (Lit.int k z).wf = true := by
    intro i hi
    have h1 := hel i (by omega)
    have hxi : i < xs.length := by omega
    rw [List.getElem?_eq_getElem hxi, hc, Nat.mul_one] at h1
    obtain ⟨z, e1, _, hw⟩ := DataW.trod_int he h1
    have e2 : ((Value.agg cs).cells.toList.drop i).take 1 = [cs[i]] := by
      show (cs.toList.drop i).take 1 = [cs[i]]
      rw [List.drop_eq_getElem_cons (by simpa using hi)]
      simp
    rw [e2] at e1
    injection e1 with e1
    exact ⟨z, e1, hw⟩
  refine ⟨cs.toList.map (fun v => match v with | .int _ z => z | _ => 0), by simpa using hsz, ?_, ?_⟩
  · congr 1
    apply Array.ext
    · simp
    · intro i h1 h2
      obtain ⟨z, hz, _⟩ := each i h1
      simp [hz]
  · intro z hz
    simp only [List.mem_map] at hz
    obtain ⟨v, hv, rfl⟩ := hz
    obtain ⟨i, hi, rfl⟩ := List.getElem_of_mem hv
    obtain ⟨z, hz, hw⟩ := each i (by simpa using hi)
    have : cs.toList[i] = .int k z := by simpa using hz
    rw [this]
    exact hw

theorem open_u32s {t e n : Nat} {v : Value} {d : DataW H} {ps : List MemPlace} (ht : P.underlying t = some (.array n e)) (he : P.underlying e = some (.int .u32)) (hc : P.cellsOf e = 1) (hn : P.cellsOf t = n)
    (hval : Value.okWide P w r b0 t v) (h : DataW.Trod enc P w base spare held t v d ps) : ∃ s : List UInt32, s.length = n ∧ v = .agg (uv s) := by
  obtain ⟨zs, hl, rfl, hw⟩ := open_arr ht he hc hn hval h
  refine ⟨zs.map fun z => UInt32.ofNat z.toNat, by simpa using hl, ?_⟩
  unfold uv
  rw [List.map_map]
  congr 2
  apply List.map_congr_left
  intro z hz
  have hb := bounds_u32 (hw z hz)
  simp only [Function.comp]
  exact int_eq (by rw [UInt32.toNat_ofNat']; omega)
theorem open_u8s {t e n : Nat} {v : Value} {d : DataW H} {ps : List MemPlace} (ht : P.underlying t = some (.array n e)) (he : P.underlying e = some (.int .u8)) (hc : P.cellsOf e = 1) (hn : P.cellsOf t = n)
    (hval : Value.okWide P w r b0 t v) (h : DataW.Trod enc P w base spare held t v d ps) : ∃ l : List UInt8, l.length = n ∧ v = .agg (bva l) := by
  obtain ⟨zs, hl, rfl, hw⟩ := open_arr ht he hc hn hval h
  refine ⟨zs.map fun z => UInt8.ofNat z.toNat, by simpa using hl, ?_⟩
  unfold bva bv
  rw [List.map_map]
  congr 2
  apply List.map_congr_left
  intro z hz
  have hb := bounds_u8 (hw z hz)
  simp only [Function.comp]
  exact int_eq (by rw [UInt8.toNat_ofNat']; omega)
end
end Go.Proofs.Ytgfldfofiglefaa
