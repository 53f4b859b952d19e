/-
  SectorPacks holds: of every place, number and body (any length) the law returns true, and its arguments read as they did.
-/
import Derived.Test.YtgfldfofiglefaaMa3
import Derived.Test.YtgfldfofiglefaaRows
import Derived.ProofKit
import Derived.OpenShut
import Derived.ShutString
import Derived.ChangeOld
namespace Go.Proofs.Ytgfldfofiglefaa
open Go.RowKit Kd Sx Go.ChangeShapes Go.WideShapes Go.ChangeAt
attribute [local go_sem ↓] Go.wp_at_zero Go.wp_at_succ
set_option maxRecDepth 100000 in
set_option maxHeartbeats 12800000 in
theorem sectorPacks_any (w : World) (a : Int) (_ : -9223372036854775808 ≤ a ∧ a ≤ 9223372036854775807) (gi : Int) (hgi : 0 ≤ gi ∧ gi ≤ 18446744073709551615) (A : Option Addr) (n c : Nat) (l : List UInt8) (hl : l.length = n) (_ : n ≤ c) (_ : c ≤ maxLen) (hr : Rd w.heap.size w A (bv l)) :
    Calls Try.prog 8 #[.int .i64 a, .int .u64 gi, .slice A n c] w (RetB (.bool true) w) := by
  obtain ⟨g, rfl⟩ := Int.eq_ofNat_of_zero_le hgi.1
  have HG := Lib.hid (show U64 g from by unfold U64; omega)
  have HL := Lib.hid hl
  have RA := Lib.hid hr
  clear hgi hl hr
  obtain ⟨z, hz0⟩ : ∃ z : List UInt8, z = zeroS := ⟨_, rfl⟩
  have hz : ∀ W, (zeroValue 38).run Try.prog W = .ok (.agg (bva z)) W := fun _ => by rw [hz0]; kernel_rfl
  have HZ0 := Lib.hid hz0
  have HZ3 := Lib.hid (show z.length = 128 by rw [hz0]; exact zeroS_length)
  have HIZ : Hid ((Try.prog.info? 38).map (·.size) = some (bva z).size) := by rw [bva_size, HZ3.out]; exact info_sec
  have HLIT := Lib.hid (show Try.zeroCells98 = zeroLit by kernel_rfl)
  clear hz0
  by_cases hbig : 200 < n
  · have hd : decide ((200 : Int) < (n : Int)) = true := by simp; omega
    clear hbig
    go_enter Try.func8, Try.ntmps8
    go_wp2_with fail
    refine (awake_any _).mono ?_
    rintro e w1 ⟨rfl, bw⟩
    go_wp2_with fail
    go_ret
    exact ⟨rfl, bw⟩
  have hd : decide ((200 : Int) < (n : Int)) = false := by simp; omega
  have HN := Lib.hid (show n ≤ 200 by omega)
  obtain ⟨p, hp⟩ : ∃ p, p = packS litSumL a g l := ⟨_, rfl⟩
  have P3 := Lib.hid (show p.length = 128 by rw [hp]; exact packS_length litSumL_length)
  have HIP : Hid ((Try.prog.info? 38).map (·.size) = some (bva p).size) := by rw [bva_size, P3.out]; exact info_sec
  obtain ⟨may, hmay⟩ : ∃ x, x = mayS a l := ⟨_, rfl⟩
  have HCP := Lib.hid (show ∀ W, Rd W.heap.size W A (bv l) → Calls Try.prog 51 #[.iface 98 (.agg Try.zeroCells98), .int .i64 a, .int .u64 g, .slice A n c] W (RetB (.tuple #[.agg (bva p), .bool may]) W) from fun W hr => by
    rw [hp, hmay, HLIT.out]; exact pack_any litS a g HG.out A n c l W HL.out hr)
  have HCR := Lib.hid (show ∀ W A c, Rd W.heap.size W A (bv l) → Calls Try.prog 52 #[.int .i64 a, .int .u64 g, .slice A n c] W (RetB (.tuple #[.agg (bva p), .bool may]) W) from fun W A c hr => by
    rw [hp, hmay]; exact rpack_any a g HG.out A n c l W HL.out hr)
  have HCN := Lib.hid (show ∀ W, Calls Try.prog 51 #[.nilIface, .int .i64 a, .int .u64 g, .slice A n c] W (RetB (.tuple #[.agg (bva z), .bool false]) W) from fun W => by
    rw [HZ0.out]; exact pack_nil a g A n c W)
  have heq : ∀ W, (Op.equalIn 10000 38 (.agg (bva p)) (.agg (bva p))).run Try.prog W = .ok true W := fun W => by rw [eq_sec p p P3.out P3.out, decide_eq_true rfl]
  have heqz : ∀ W, (Op.equalIn 10000 38 (.agg (bva z)) (.agg (bva z))).run Try.prog W = .ok true W := fun W => by rw [eq_sec z z HZ3.out HZ3.out, decide_eq_true rfl]
  have HBZ := Lib.hid (show ∀ W, (Instr.build 38 #[]).run Try.prog W = .ok (.agg (bva z)) W from fun _ => by rw [HZ0.out]; kernel_rfl)
  clear hp hmay hbig
  have BEL := Lib.hid (Below.refl w.heap.size w)
  go_enter Try.func8, Try.ntmps8
  go_wp2_with fail
  refine (awake_any _).mono ?_
  rintro e w1 ⟨rfl, bw⟩
  have RA' := Lib.hid (RA.out.below (bw.mono BEL.out.size))
  have BEL' := Lib.hid (BEL.out.trans (bw.mono BEL.out.size))
  clear RA BEL
  have RA := Lib.hid RA'.out
  have BEL := Lib.hid BEL'.out
  clear RA' BEL'
  clear bw
  go_wp2_with (at_builtin; apply Classical.byContradiction; intro hneg)
  refine hneg ?_
  clear hneg
  have hb0 : Below w1.heap.size w1 (w1.alloc (.cells #[] 5)) := (Below.refl _ _).alloc (Nat.le_refl _) _
  refine wpList_app _ rfl (.tmp 19) (.tmp 20) _ rfl Wi.bytesElt (base := w1.heap.size) (v := .slice (some ⟨w1.heap.size, 0, none⟩) 0 0) rfl (World.ownsRow_lit w1 #[] 0 (Nat.le_refl _) (Nat.zero_le _) rfl) (m := n) rfl ((RA.out.more BEL.out.size).below hb0) (by rw [bv_length]; exact HL.out) (bv_one _) (by have := HN.out; omega) hb0.size ?_
  intro A4 c4 w9 ho4 hg4 _
  have bw := app_below hb0 (World.ownsRow_lit w1 #[] 0 (Nat.le_refl _) (Nat.zero_le _) rfl) hg4 (Nat.le_refl _) hb0.size
  have OB := Lib.hid (show w9.ownsRow 0 5 1 (.slice A4 n c4) n (bv l) from own_eq (own_more ho4 (Nat.zero_le _)) (by omega) (show _ = bv l from List.nil_append _))
  rw [show 0 + n = n from Nat.zero_add n]
  clear ho4 hg4 hb0
  have RA' := Lib.hid (RA.out.below (bw.mono BEL.out.size))
  have BEL' := Lib.hid (BEL.out.trans (bw.mono BEL.out.size))
  clear RA BEL
  have RA := Lib.hid RA'.out
  have BEL := Lib.hid BEL'.out
  clear RA' BEL'
  clear bw
  go_wp2_with fail
  refine (HCP.out _ (RA.out.more BEL.out.size)).mono ?_
  rintro e w2 ⟨rfl, bw⟩
  have RA' := Lib.hid (RA.out.below (bw.mono BEL.out.size))
  have BEL' := Lib.hid (BEL.out.trans (bw.mono BEL.out.size))
  have OB' := Lib.hid (own_below OB.out bw)
  clear RA BEL OB
  have RA := Lib.hid RA'.out
  have BEL := Lib.hid BEL'.out
  have OB := Lib.hid OB'.out
  clear RA' BEL' OB'
  clear bw
  go_wp2_with (first
    | (show wpList _ _ _ ({ dst := none, op := .store 38 (.tmp 8) (.tmp 29), type := _, pos := _, after := _, guard := _ } :: _) _ _; apply Classical.byContradiction; intro hneg))
  refine hneg ?_
  clear hneg
  refine wpList_store_row rfl 38 (.tmp 8) (.tmp 29) rfl w2.heap.size (bva p) rfl rfl 38 (bva z) (heap_alloc_new _ _) HIP.out (by rw [bva_size, bva_size, P3.out, HZ3.out]) (bva_one _) ?_
  obtain ⟨w3, hw3⟩ : ∃ x, x = (w2.alloc (.cells (bva z) 38)).setRow w2.heap.size (bva p) := ⟨_, rfl⟩
  rw [← hw3]
  obtain ⟨g3, hg3⟩ : ∃ x, x = w2.heap.size := ⟨_, rfl⟩
  have bn : Below w2.heap.size w2 w3 := by rw [hw3]; exact below_new (Below.refl _ _) (Nat.le_refl _)
  have B1 := Lib.hid (show Blk w3 g3 (bva p) 38 from by rw [hw3, hg3]; exact blk_new _)
  rw [← hg3]
  clear hw3 hg3
  have RA' := Lib.hid (RA.out.below (bn.mono BEL.out.size))
  have BEL' := Lib.hid (BEL.out.trans (bn.mono BEL.out.size))
  have OB' := Lib.hid (own_below OB.out bn)
  clear RA BEL OB
  have RA := Lib.hid RA'.out
  have BEL := Lib.hid BEL'.out
  have OB := Lib.hid OB'.out
  clear RA' BEL' OB'
  clear bn
  go_wp2_with fail
  refine (HCR.out _ A4 c4 (Rd.own OB.out)).mono ?_
  rintro e w4 ⟨rfl, bw⟩
  have RA' := Lib.hid (RA.out.below (bw.mono BEL.out.size))
  have BEL' := Lib.hid (BEL.out.trans (bw.mono BEL.out.size))
  have OB' := Lib.hid (own_below OB.out bw)
  have B1' := Lib.hid (Blk.below B1.out bw)
  clear RA BEL OB B1
  have RA := Lib.hid RA'.out
  have BEL := Lib.hid BEL'.out
  have OB := Lib.hid OB'.out
  have B1 := Lib.hid B1'.out
  clear RA' BEL' OB' B1'
  clear bw
  go_wp2_with (first
    | (show wpList _ _ _ ({ dst := none, op := .store 38 (.tmp 10) (.tmp 36), type := _, pos := _, after := _, guard := _ } :: _) _ _; apply Classical.byContradiction; intro hneg))
  refine hneg ?_
  clear hneg
  refine wpList_store_row rfl 38 (.tmp 10) (.tmp 36) rfl w4.heap.size (bva p) rfl rfl 38 (bva z) (heap_alloc_new _ _) HIP.out (by rw [bva_size, bva_size, P3.out, HZ3.out]) (bva_one _) ?_
  obtain ⟨w5, hw5⟩ : ∃ x, x = (w4.alloc (.cells (bva z) 38)).setRow w4.heap.size (bva p) := ⟨_, rfl⟩
  rw [← hw5]
  obtain ⟨g5, hg5⟩ : ∃ x, x = w4.heap.size := ⟨_, rfl⟩
  have bn : Below w4.heap.size w4 w5 := by rw [hw5]; exact below_new (Below.refl _ _) (Nat.le_refl _)
  have B2 := Lib.hid (show Blk w5 g5 (bva p) 38 from by rw [hw5, hg5]; exact blk_new _)
  rw [← hg5]
  clear hw5 hg5
  have RA' := Lib.hid (RA.out.below (bn.mono BEL.out.size))
  have BEL' := Lib.hid (BEL.out.trans (bn.mono BEL.out.size))
  have OB' := Lib.hid (own_below OB.out bn)
  have B1' := Lib.hid (Blk.below B1.out bn)
  clear RA BEL OB B1
  have RA := Lib.hid RA'.out
  have BEL := Lib.hid BEL'.out
  have OB := Lib.hid OB'.out
  have B1 := Lib.hid B1'.out
  clear RA' BEL' OB' B1'
  clear bn
  go_wp2_with fail
  refine (HCN.out _).mono ?_
  rintro e w6 ⟨rfl, bw⟩
  have RA' := Lib.hid (RA.out.below (bw.mono BEL.out.size))
  have BEL' := Lib.hid (BEL.out.trans (bw.mono BEL.out.size))
  have OB' := Lib.hid (own_below OB.out bw)
  have B1' := Lib.hid (Blk.below B1.out bw)
  have B2' := Lib.hid (Blk.below B2.out bw)
  clear RA BEL OB B1 B2
  have RA := Lib.hid RA'.out
  have BEL := Lib.hid BEL'.out
  have OB := Lib.hid OB'.out
  have B1 := Lib.hid B1'.out
  have B2 := Lib.hid B2'.out
  clear RA' BEL' OB' B1' B2'
  clear bw
  go_wp2_with (first
    | (show wpList _ _ _ ({ dst := none, op := .store 38 (.tmp 12) (.tmp 43), type := _, pos := _, after := _, guard := _ } :: _) _ _; apply Classical.byContradiction; intro hneg))
  refine hneg ?_
  clear hneg
  refine wpList_store_row rfl 38 (.tmp 12) (.tmp 43) rfl w6.heap.size (bva z) rfl rfl 38 (bva z) (heap_alloc_new _ _) HIZ.out (by rw [bva_size]) (bva_one _) ?_
  obtain ⟨w7, hw7⟩ : ∃ x, x = (w6.alloc (.cells (bva z) 38)).setRow w6.heap.size (bva z) := ⟨_, rfl⟩
  rw [← hw7]
  obtain ⟨g7, hg7⟩ : ∃ x, x = w6.heap.size := ⟨_, rfl⟩
  have bn : Below w6.heap.size w6 w7 := by rw [hw7]; exact below_new (Below.refl _ _) (Nat.le_refl _)
  have B3 := Lib.hid (show Blk w7 g7 (bva z) 38 from by rw [hw7, hg7]; exact blk_new _)
  rw [← hg7]
  clear hw7 hg7
  have RA' := Lib.hid (RA.out.below (bn.mono BEL.out.size))
  have BEL' := Lib.hid (BEL.out.trans (bn.mono BEL.out.size))
  have OB' := Lib.hid (own_below OB.out bn)
  have B1' := Lib.hid (Blk.below B1.out bn)
  have B2' := Lib.hid (Blk.below B2.out bn)
  clear RA BEL OB B1 B2
  have RA := Lib.hid RA'.out
  have BEL := Lib.hid BEL'.out
  have OB := Lib.hid OB'.out
  have B1 := Lib.hid B1'.out
  have B2 := Lib.hid B2'.out
  clear RA' BEL' OB' B1' B2'
  clear bn
  cases may
  ·
    go_wp2_with (first
      | (refine wpList_load_row rfl 38 (.tmp 8) rfl g3 rfl 38 (bva p) (0, 0) _ B1.out Try.underlying38 rfl HIP.out ?_)
      | (refine wpList_load_row rfl 38 (.tmp 10) rfl g5 rfl 38 (bva p) (0, 0) _ B2.out Try.underlying38 rfl HIP.out ?_))
    refine ((same_any A A4 n n c c4 l l _ HL.out HL.out RA.out (Rd.own OB.out))).mono ?_
    rintro e w8 ⟨rfl, rfl⟩
    rw [decide_eq_true (rfl : l = l)]
    go_wp2_with (first
      | (refine wpList_execg8 (o := { dst := some 59, op := .load 38 (.tmp 12), type := _, pos := _, after := _, guard := _ }) (v := .agg (bva z)) (w' := w8) rfl ?hl59 ?_; case hl59 => exact exec_load 38 (.tmp 12) rfl rfl B3.out Try.underlying38 rfl HIZ.out)
      | (refine wpList_execg8 (o := { dst := some 60, op := .build 38 #[], type := _, pos := _, after := _, guard := _ }) (v := .agg (bva z)) (w' := w8) rfl ?hb60 ?_; case hb60 => exact exec_buildS 38 #[] rfl (by simp only [List.map_toArray, List.map_nil]; exact HBZ.out _)))
    go_ret
    exact ⟨rfl, BEL.out⟩
  ·
    go_wp2_with (first
      | (refine wpList_load_row rfl 38 (.tmp 8) rfl g3 rfl 38 (bva p) (0, 0) _ B1.out Try.underlying38 rfl HIP.out ?_)
      | (refine wpList_load_row rfl 38 (.tmp 10) rfl g5 rfl 38 (bva p) (0, 0) _ B2.out Try.underlying38 rfl HIP.out ?_))
    refine ((same_any A A4 n n c c4 l l _ HL.out HL.out RA.out (Rd.own OB.out))).mono ?_
    rintro e w9 ⟨rfl, rfl⟩
    rw [decide_eq_true (rfl : l = l)]
    go_wp2_with (first
      | (refine wpList_execg8 (o := { dst := some 59, op := .load 38 (.tmp 12), type := _, pos := _, after := _, guard := _ }) (v := .agg (bva z)) (w' := w9) rfl ?hl59 ?_; case hl59 => exact exec_load 38 (.tmp 12) rfl rfl B3.out Try.underlying38 rfl HIZ.out)
      | (refine wpList_execg8 (o := { dst := some 60, op := .build 38 #[], type := _, pos := _, after := _, guard := _ }) (v := .agg (bva z)) (w' := w9) rfl ?hb60 ?_; case hb60 => exact exec_buildS 38 #[] rfl (by simp only [List.map_toArray, List.map_nil]; exact HBZ.out _)))
    go_ret
    exact ⟨rfl, BEL.out⟩
theorem sectorPacks_own : ownKnob Try.prog.godebug = none := by kernel_rfl
theorem sectorPacks_laid : laidOutB Try.prog = true := by kernel_rfl

set_option maxRecDepth 100000 in
theorem sectorPacks_lifted (os : Os) (started : os.Started) (H : Type) (enc : TypeId × Value → H) :
    ReturnsInHanded {} Try.checked os 8 .any (Rows.sectorPacksSpec.pre6 enc Try.prog Try.f8 Rows.sectorPacksRow.domain false) (Rows.sectorPacksSpec.post enc Try.prog Try.f8 false true false false) := by
  refine returnsInHanded_of_change (C := Try.checked) sectorPacks_own started (by kernel_rfl) Try.func8
    (ChangeSpec.witness6 (enc := enc) (C := Try.checked) false ⟨#[], #[.int .i64 0, .int .u64 0, .slice none 0 0], []⟩ 8 (by kernel_rfl) (by kernel_rfl) (by kernel_rfl) (by kernel_rfl)) ?_
  intro W base args ds gs before hval0 hW _ _
  have hval : ∀ (j : Nat) t v, Try.f8.params[j]? = some t → args[j]? = some v → Value.okWide Try.prog W .any base t v := hval0
  have hW' := hW
  obtain ⟨p, q, hA0, hV, rfl, hfz, hnd⟩ := hW
  have hA : DataW.TrodAll enc Try.prog W 0 (fun _ => true) true Try.f8.params.toList args.toList ds p := hA0
  rw [Try.params8] at hA hval
  obtain ⟨v0, vs0, d0, ds0, p0, q0, hargs, rfl, rfl, h0, r0⟩ := trodAll_cons hA
  obtain ⟨v1, vs1, d1, ds1, p1, q1, rfl, rfl, rfl, h1, r1⟩ := trodAll_cons r0
  obtain ⟨v2, vs2, d2, ds2, p2, q2, rfl, rfl, rfl, h2, r2⟩ := trodAll_cons r1
  obtain ⟨rfl, rfl, rfl⟩ := trodAll_nil r2
  obtain rfl : args = #[v0, v1, v2] := by cases args; simp_all
  obtain ⟨rfl, rfl⟩ := trodVars_none hV
  obtain ⟨a0, rfl, rfl, rfl, w0⟩ := open_int Try.underlying3 (hval 0 3 v0 rfl rfl) h0
  have b0 := bounds_i64 w0
  obtain ⟨a1, rfl, rfl, rfl, w1⟩ := open_int Try.underlying91 (hval 1 91 v1 rfl rfl) h1
  have b1 := bounds_u64 w1
  obtain ⟨a2, n2, c2, rfl⟩ := okWide_slice Try.underlying71 (hval 2 71 v2 rfl rfl)
  have lt2 : ∀ x ∈ p2, x.block < W.heap.size := by obtain ⟨m, hm⟩ := h2; exact DataW.trod_lt m _ _ _ hm
  obtain ⟨l2, hl2, hc2, hm2, hr2⟩ := open_bytes Try.underlying71 Try.underlying5 (by kernel_rfl) h2
  clear hA0 hval0
  refine (sectorPacks_any W a0 b0 a1 b1 a2 n2 c2 l2 hl2 hc2 hm2 hr2).mono fun e W' ⟨he, bel⟩ => ?_
  subst he
  exact ⟨_, rfl, _, _, _, [], _, [], hW', trodAll_mk1 (shut_bool Try.underlying4 _), (trodAll_cons_mk (shut_int Try.underlying3 w0) (trodAll_cons_mk (shut_int Try.underlying91 w1) (trodAll_cons_mk (Below.trod sectorPacks_laid (by kernel_rfl) (of_decide_eq_true (by kernel_rfl)) h2 bel lt2) trodAll_mk0))), rfl, bel.frame _, fun h => by cases h⟩

theorem sectorPacks_holds : Rows.SectorPacksSaid :=
  OpenClaim.holds_of_wide 8 Try.f8 rfl rfl rfl rfl rfl rfl rfl ⟨rfl, rfl, rfl, rfl, rfl⟩ rfl rfl rfl rfl rfl (by kernel_rfl) Try.func8 (by kernel_rfl)
    (of_decide_eq_true (by kernel_rfl)) (by unfold Func.isWrapper; rw [if_neg (of_decide_eq_false (by kernel_rfl))]; exact ⟨rfl, rfl⟩)
    (fun os started H enc _ => sectorPacks_lifted os started H enc)

#print axioms sectorPacks_holds

end Go.Proofs.Ytgfldfofiglefaa
