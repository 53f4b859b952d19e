/-
  The contract of the reference's Key: a leaf's key of nodes that are held.
-/
import Derived.Test.YtkfcllcdkgnfbaaKtPunct
import Derived.Test.YtkfcllcdkgnfbaaKtCount
import Derived.Test.YtkfcllcdkgnfbaaShMid
import Derived.Test.YtkfcllcdkgnfbaaHere
import Derived.Test.YtkfcllcdkgnfbaaPureCall
namespace Go.Proofs.Ytkfcllcdkgnfbaa.Kt
open Go.RowKit
attribute [local go_sem ↓] Go.wp_at_zero Go.wp_at_succ
/-- The one of the two below a node that has the leaf. -/
def stepK (x : Nd) (m : Int) : Nd := if IntKind.u64.wrap (x.a + manyI (x.d + 1)) ≤ m then ndR x else ndL x
/-- The way down. -/
def goL : Nat → Nd → Int → Nd
  | 0, x, _ => x
  | f + 1, x, m => goL f (stepK x m) m
theorem stepK_s (x : Nd) (m : Int) : (stepK x m).s.length = 32 := by unfold stepK; split; exact rightK_length _; exact leftK_length _
theorem stepK_d (x : Nd) (m : Int) : (stepK x m).d = x.d + 1 := by unfold stepK; split <;> rfl
theorem goL_s : ∀ (f : Nat) (x : Nd) (m : Int), x.s.length = 32 → (goL f x m).s.length = 32
  | 0, _, _, h => h
  | f + 1, x, m, _ => goL_s f _ m (stepK_s x m)
def depthAt (w : World) (X : Nat) : Nat := (17 - intOf ((w.cell? ⟨X, 0, none⟩).getD undef)).toNat
theorem depthAt_eq {w : World} {X : Nat} {x : Nd} (h : Blk w X (ndC x) 32) : depthAt w X = (17 - x.d).toNat := by
  unfold depthAt; rw [nd_d h]; rfl
theorem nd_setD {w : World} {X : Nat} {x : Nd} (h : Blk w X (ndC x) 32) (d : Int) : Blk (w.setCell ⟨X, 0, none⟩ (.int .i64 d)) X (ndC ⟨d, x.a, x.s⟩) 32 := heap_setCell_same _ _ _ _ _ _ h
theorem nd_setA {w : World} {X : Nat} {x : Nd} (h : Blk w X (ndC x) 32) (a : Int) : Blk (w.setCell ⟨X, 1, none⟩ (.int .u64 a)) X (ndC ⟨x.d, a, x.s⟩) 32 := heap_setCell_same _ _ _ _ _ _ h
theorem nd_setS {w : World} {X : Nat} {x : Nd} (h : Blk w X (ndC x) 32) (hs : x.s.length = 32) {s : List UInt8} (hs' : s.length = 32) : Blk (w.setCells X 2 (bv s)) X (ndC ⟨x.d, x.a, s⟩) 32 := by
  have h1 := row_setCells X 32 (bv s) 2 w (ndV x) h (by rw [bv_length, ndV_length hs]; omega)
  have e : splice (ndV x) 2 (bv s) = ndV ⟨x.d, x.a, s⟩ := by
    unfold splice ndV
    rw [bv_length, List.drop_of_length_le (by simp [bv_length, hs, hs'])]
    simp
  rw [e] at h1
  exact h1
theorem blk_cells {w : World} {g g' o : Nat} {cs : Array Value} {t : TypeId} {vs : List Value} (h : Blk w g cs t) (hg : g ≠ g') : Blk (w.setCells g' o vs) g cs t := by
  have := (grown_setCells g' vs o w).block g h.lt (fun e => hg (by injection e))
  unfold Blk; rw [this]; exact h
theorem below_cells {B g o : Nat} {a w : World} {vs : List Value} (h : Below B a w) (hg : B ≤ g) (hs : B ≤ w.heap.size) : Below B a (w.setCells g o vs) :=
  h.grown (grown_setCells g vs o w) hs (fun k hk => by injection hk with hk; omega)
theorem below_cell {B g o : Nat} {a w : World} {v : Value} (h : Below B a w) (hg : B ≤ g) (hs : B ≤ w.heap.size) : Below B a (w.setCell ⟨g, o, none⟩ v) := below_cells (vs := [v]) h hg hs
theorem goL_step (y : Nd) (m : Int) (h : y.d < 17) : goL (17 - y.d).toNat y m = goL (17 - (y.d + 1)).toNat (stepK y m) m := by
  have e : (17 - y.d).toNat = (17 - (y.d + 1)).toNat + 1 := by omega
  rw [e]; rfl
theorem goL_end (y : Nd) (m : Int) (h : ¬ y.d < 17) : goL (17 - y.d).toNat y m = y := by
  have e : (17 - y.d).toNat = 0 := by omega
  rw [e]; rfl
theorem results_ct {P : Program} {fn : Func} {p u : Tmp} {ty : TypeId} (h : fn.results = #[.cell p ty, .tmp u]) (tmps : Array Value) (w : World) (g : Nat) (t : TypeId) (cs : Array Value) (d : TypeDesc)
    (hp : tmps.getD p undef = .pointer (some ⟨g, 0, none⟩)) (hg : Blk w g cs t)
    (hu : P.underlying ty = some d) (hd : (match d with | .struct _ | .array _ _ => true | _ => false) = true) (hi : (P.info? ty).map (·.size) = some cs.size) :
    (results fn tmps).run P w = .ok (.tuple #[.agg cs, tmps.getD u undef]) w := by
  have hp' : tmps[p]?.getD undef = .pointer (some ⟨g, 0, none⟩) := by simpa using hp
  simp [results, h, hp', asAddr, run_loadVar_row w g t ty cs (0, 0) d hg hu hd hi]
/-- What Key tells of the one that was found. -/
def keyV (o : Option Nd) (m : Int) : Value := match o with | some x => .tuple #[.agg (bva (goL (17 - x.d).toNat x m).s), .bool true] | none => .tuple #[.agg (bva (List.replicate 32 0)), .bool false]
theorem keyV_some (x : Nd) (m : Int) : keyV (some x) m = .tuple #[.agg (bva (goL (17 - x.d).toNat x m).s), .bool true] := rfl
theorem keyV_none (m : Int) : keyV none m = .tuple #[.agg (bva (List.replicate 32 0)), .bool false] := rfl
theorem ndC_one (x : Nd) : (ndC x).all (·.oneCell') = true := by
  rw [ndC, List.all_toArray]; exact List.all_eq_true.2 (ndV_one x)
set_option maxRecDepth 100000 in
set_option maxHeartbeats 6400000 in
/-- The inner way, at the block of a node. -/
theorem key_any {B : Nat} (A : Option Addr) (n c : Nat) (l : List Nd) (m : Int) (w : World) (hl : l.length = n) (hv : ∀ x ∈ l, okN x) (hB : B ≤ w.heap.size) (hr : Rd B w A (nvs l)) (hn : n ≤ 1000000) (hm : m < 18446744073709551616) :
    Calls Try.prog 14 #[.slice A n c, .int .u64 m] w (RetB (keyV (l.find? (inI · m)) m) w) := by
  have hl3 : ∀ x ∈ l, x.s.length = 32 := fun x hx => (hv x hx).2.2.2
  obtain ⟨z, hz0⟩ : ∃ z : List UInt8, z = List.replicate 32 0 := ⟨_, rfl⟩
  obtain ⟨zn, hzn⟩ : ∃ zn : Nd, zn = zeroNd := ⟨_, rfl⟩
  have hz : ∀ W, (zeroValue 22).run Try.prog W = .ok (.agg (bva z)) W := fun _ => by rw [hz0]; kernel_rfl
  have hz2 : ∀ W, (zeroValue 32).run Try.prog W = .ok (.agg (ndC zn)) W := fun _ => by rw [hzn]; kernel_rfl
  have HBZ := Lib.hid (show ∀ W, (Instr.build 22 #[]).run Try.prog W = .ok (.agg (bva z)) W from fun _ => by rw [hz0]; kernel_rfl)
  have Z3 : Hid (z.length = 32) := by show _ = _; rw [hz0]; rfl
  have ZN3 : Hid (zn.s.length = 32) := by show _ = _; rw [hzn]; rfl
  have b1 : Blk (w.alloc (.cells (bva z) 22)) w.heap.size (bva z) 22 := heap_alloc_new _ _
  have hb : Below w.heap.size w (w.alloc (.cells (bva z) 22)) := (Below.refl _ _).alloc (Nat.le_refl _) _
  have Z0 := Lib.hid hz0
  have HL := Lib.hid hl
  have HR := Lib.hid (hr.more hB)
  have HV := Lib.hid hv
  have H3 := Lib.hid hl3
  have HM := Lib.hid hm
  have B1 := Lib.hid b1
  have BB := Lib.hid hb
  clear hl hr hv hl3 hm hB hz0 hzn b1 hb
  go_enter Try.func14, Try.ntmps14
  go_wp2_with fail
  go_loopw [6] (fun i wr => ∃ k : Nat, k ≤ n ∧ i = .int .i64 k ∧ Hid ((l.take k).find? (inI · m) = none) ∧ Blk wr w.heap.size (bva z) 22 ∧ Below w.heap.size w wr) (fun i _ => n - (intOf i).toNat)
  case atStart => exact ⟨0, by omega, rfl, rfl, B1.out, BB.out⟩
  case round =>
    clear B1 BB
    obtain ⟨k, hk, rfl, HF, b1, hbw⟩ := hrel
    by_cases hlt : k < n
    · have hkl : k < l.length := by rw [HL.out]; exact hlt
      have hrd := HR.out
      obtain ⟨ad, hA, hbl, _⟩ := rd_node HR.out H3.out hkl
      subst hA
      obtain ⟨x, hxe⟩ : ∃ x, x = l[k] := ⟨_, rfl⟩
      have hx := HV.out l[k] (List.getElem_mem hkl)
      rw [← hxe] at hx
      have hcell : ∀ w', Below w.heap.size w w' → ∀ j v, (ndV x)[j]? = some v → w'.cell? ((ad.add (k * 34)).add j) = some v := fun w' hb' j v hv => by
        obtain ⟨ad', hA', _, hc⟩ := rd_node (hrd.below hb') H3.out hkl
        injection hA' with hA'
        subst hA'
        exact hc j v (by rw [← hxe]; exact hv)
      have HCL := Lib.hid hcell
      have HI : Hid ((Try.prog.info? 32).map (·.size) = some (ndV x).length) := by rw [ndV_length hx.2.2.2]; exact info_node
      have HIC : Hid ((Try.prog.info? 32).map (·.size) = some (ndC x).size) := by rw [ndC_size hx.2.2.2]; exact info_node
      have HX := Lib.hid hx
      have HXE := Lib.hid hxe
      have k0 : (0 : Int) ≤ (k : Int) := by omega
      have k1 : (k : Int) < (n : Int) := by omega
      have D1 := Lib.hid b1
      have DB := Lib.hid hbw
      clear hcell hrd hxe hx b1 hbw
      by_cases hin : inI x m = true
      · go_wp2_with (refine wpList_load_at rfl 32 (.tmp 18) rfl (ad.add (k * 34)) rfl (HCL.out _ DB.out) Try.underlying32 rfl HI.out ?_
                     change wpList _ _ _ _ (Act.put _ _ (.agg (ndC x))) _)
        refine (in_any x (by have := HX.out.1; omega) HX.out.2.2.1 m HM.out _).mono ?_
        rintro e w2 ⟨rfl, bw⟩
        rw [hin]
        have E1 := Lib.hid (D1.out.below bw)
        have EB := Lib.hid (DB.out.trans (bw.mono DB.out.size))
        clear bw D1 DB
        have HXP := HX.out
        go_wp2_with (first
          | (refine wpList_load_at rfl 32 (.tmp 25) rfl (ad.add (k * 34)) rfl (HCL.out _ EB.out) Try.underlying32 rfl HI.out ?_
             change wpList _ _ _ _ (Act.put _ _ (.agg (ndC x))) _)
          | (refine wpList_store_row rfl 32 (.tmp 7) (.tmp 26) rfl w2.heap.size (ndC x) rfl rfl 32 (ndC zn) (heap_alloc_new _ _) HIC.out (by rw [ndC_size HX.out.2.2.2, ndC_size ZN3.out]) (ndC_one _) ?_
             generalize hwx : World.setRow _ _ _ = wx
             have e1 : Blk wx w2.heap.size (ndC x) 32 := by rw [← hwx]; exact setRow_heap _ _ _ _ _ _ (heap_alloc_new _ _)
             have e2 : Blk wx w.heap.size (bva z) 22 := by rw [← hwx]; exact blk_row (blk_old1 E1.out) (by have := E1.out.lt; omega)
             have eb : Below w.heap.size w wx := by rw [← hwx]; exact below_setRow (EB.out.alloc EB.out.size _) EB.out.size _
             have hX : w.heap.size < w2.heap.size := E1.out.lt
             generalize w2.heap.size = X at e1 hX ⊢
             have F1 := Lib.hid e1
             have F2 := Lib.hid e2
             have FB := Lib.hid eb
             clear hwx e1 e2 eb E1 EB))
        try simp only [Act.put]
        go_loopw [8, 9] (fun _ _ wr => ∃ y : Nd, Hid (0 ≤ y.d ∧ y.d ≤ 17 ∧ y.s.length = 32) ∧ Blk wr X (ndC y) 32 ∧ Blk wr w.heap.size (bva z) 22 ∧ Below w.heap.size w wr ∧ Hid (goL (17 - y.d).toNat y m = goL (17 - x.d).toNat x m)) (fun _ _ wr => depthAt wr X)
        case atStart => exact ⟨x, ⟨HXP.1, HXP.2.1, HXP.2.2.2⟩, F1.out, F2.out, FB.out, rfl⟩
        case round =>
          clear F1 F2 FB
          obtain ⟨y, HY, f1, f2, fb, HG⟩ := hrel
          have HS : Hid (y.s.length = 32) := HY.out.2.2
          by_cases h17 : y.d < 17
          · have hw1 : IntKind.i64.wrap (y.d + 1) = y.d + 1 := IntWalk.i64_in _ (by have := HY.out.1; omega)
            have hD1 : -9223372036854775808 ≤ y.d + 1 := by have := HY.out.1; omega
            obtain ⟨p, hp⟩ : ∃ p, p = leftK y.s := ⟨_, rfl⟩
            obtain ⟨q, hq⟩ : ∃ q, q = rightK y.s := ⟨_, rfl⟩
            obtain ⟨M, hM⟩ : ∃ M, M = manyI (y.d + 1) := ⟨_, rfl⟩
            have P3 : Hid (p.length = 32) := by show _ = _; rw [hp, leftK_length]
            have Q3 : Hid (q.length = 32) := by show _ = _; rw [hq, rightK_length]
            have HIP : Hid ((Try.prog.info? 22).map (·.size) = some (bva p).size) := by rw [bva_size, P3.out]; exact info_b32
            have HIQ : Hid ((Try.prog.info? 22).map (·.size) = some (bva q).size) := by rw [bva_size, Q3.out]; exact info_b32
            have HIX : Hid ((Try.prog.info? 22).map (·.size) = some (bv y.s).length) := by rw [bv_length, HS.out]; exact info_b32
            have HMQ := Lib.hid (show ∀ W, Calls Try.prog 30 #[.int .i64 (y.d + 1)] W (RetQ (.int .u64 M) W) from fun W => by rw [hM]; exact many_q _ hD1 W)
            obtain ⟨R, hR⟩ : ∃ R, IntKind.u64.wrap (y.a + M) = R := ⟨_, rfl⟩
            have HMP := Lib.hid (show ∀ W, Calls Try.prog 30 #[.int .i64 (y.d + 1)] W (fun e w' => e = .returned (.int .u64 M) ∧ W = w') from fun W => by rw [hM]; exact many_any _ hD1 W)
            have HP := Lib.hid hp
            have HQ := Lib.hid hq
            have HMM := Lib.hid hM
            have HDW := Lib.hid (depthAt_eq f1)
            have c0 := nd_d f1
            have C1 := Lib.hid f1
            have C2 := Lib.hid f2
            have CB := Lib.hid fb
            clear hp hq hM f1 f2 fb hD1
            go_wp2_with (refine wpList_load_mid rfl 22 (.tmp 31) rfl X 2 rfl (bv y.s) _ (nd_s C1.out) Try.underlying22 rfl HIX.out ?_
                         change wpList _ _ _ _ (Act.put _ _ (.agg (bva y.s))) _)
            refine (split_any y.s HS.out _).mono ?_
            rintro e w3 ⟨rfl, bw⟩
            rw [← HP.out, ← HQ.out]
            have D1 := Lib.hid (C1.out.below bw)
            have D2 := Lib.hid (C2.out.below bw)
            have DB := Lib.hid (CB.out.trans (bw.mono CB.out.size))
            have hX3 : X < w3.heap.size := D1.out.lt
            clear bw C1 C2 CB c0
            go_wp2_with (first
              | (refine wpList_store_row rfl 22 (.tmp 8) (.tmp 34) rfl w3.heap.size (bva p) rfl rfl 22 (bva z) (heap_alloc2_old _ _ _) HIP.out (by simp only [bva_size, P3.out, Z3.out]) (bva_one _) ?_
                 generalize hwx : World.setRow _ _ _ = wx
                 have e1 : Blk wx X (ndC y) 32 := by rw [← hwx]; exact blk_row (blk_old1 (blk_old1 D1.out)) (by omega)
                 have e0 : Blk wx w.heap.size (bva z) 22 := by rw [← hwx]; exact blk_row (blk_old1 (blk_old1 D2.out)) (by omega)
                 have e2 : Blk wx w3.heap.size (bva p) 22 := by rw [← hwx]; exact setRow_heap _ _ _ _ _ _ (heap_alloc2_old _ _ _)
                 have e3 : Blk wx (w3.heap.size + 1) (bva z) 22 := by rw [← hwx]; exact blk_row (heap_alloc2_new _ _ _) (by omega)
                 have eb : Below w.heap.size w wx := by rw [← hwx]; exact below_setRow ((DB.out.alloc DB.out.size _).alloc (by have := DB.out.size; simp; omega) _) DB.out.size _
                 have E0 := Lib.hid e0
                 have E1 := Lib.hid e1
                 have E2 := Lib.hid e2
                 have E3 := Lib.hid e3
                 have EB := Lib.hid eb
                 clear hwx e0 e1 e2 e3 eb D1 D2 DB)
              | (refine wpList_store_row rfl 22 (.tmp 9) (.tmp 35) rfl (w3.heap.size + 1) (bva q) rfl rfl 22 (bva z) E3.out HIQ.out (by simp only [bva_size, Q3.out, Z3.out]) (bva_one _) ?_
                 generalize hwy : World.setRow _ _ _ = wy
                 have e1 : Blk wy X (ndC y) 32 := by rw [← hwy]; exact blk_row E1.out (by omega)
                 have e0 : Blk wy w.heap.size (bva z) 22 := by rw [← hwy]; exact blk_row E0.out (by omega)
                 have e2 : Blk wy w3.heap.size (bva p) 22 := by rw [← hwy]; exact blk_row E2.out (by omega)
                 have e3 : Blk wy (w3.heap.size + 1) (bva q) 22 := by rw [← hwy]; exact setRow_heap _ _ _ _ _ _ E3.out
                 have eb : Below w.heap.size w wy := by rw [← hwy]; exact below_setRow EB.out (by omega) _
                 have c0 := nd_d e1
                 have c1 := nd_a e1
                 have fr := e1.free 0
                 have F0 := Lib.hid e0
                 have F1 := Lib.hid e1
                 have F2 := Lib.hid e2
                 have F3 := Lib.hid e3
                 have FB := Lib.hid eb
                 clear hwy e0 e1 e2 e3 eb E0 E1 E2 E3 EB)
              | (generalize hwz : World.setCell _ _ _ = wz
                 have e1 : Blk wz X (ndC ⟨y.d + 1, y.a, y.s⟩) 32 := by rw [← hwz]; exact nd_setD F1.out _
                 have e0 : Blk wz w.heap.size (bva z) 22 := by rw [← hwz]; exact F0.out.other (by omega) _ _
                 have e2 : Blk wz w3.heap.size (bva p) 22 := by rw [← hwz]; exact F2.out.other (by omega) _ _
                 have e3 : Blk wz (w3.heap.size + 1) (bva q) 22 := by rw [← hwz]; exact F3.out.other (by omega) _ _
                 have eb : Below w.heap.size w wz := by rw [← hwz]; exact below_cell FB.out (by omega) FB.out.size
                 refine wpList_load_row rfl 22 (.tmp 8) rfl w3.heap.size rfl 22 (bva p) (0, 0) _ e2 Try.underlying22 rfl HIP.out ?_
                 have G0 := Lib.hid e0
                 have G1 := Lib.hid e1
                 have G3 := Lib.hid e3
                 have GB := Lib.hid eb
                 clear hwz e0 e1 e2 e3 eb F0 F1 F2 F3 FB c0 c1 fr)
              | (refine wpList_store_mid rfl 22 (.tmp 41) (.tmp 40) rfl X 2 (bva p) rfl rfl (there_of_blk G1.out (by rw [ndV_length (x := ⟨y.d + 1, y.a, y.s⟩) HS.out, bva_size]; have := P3.out; omega)) HIP.out (bva_one _) ?_
                 generalize hwv : World.setCells _ _ _ _ = wv
                 have e1 : Blk wv X (ndC ⟨y.d + 1, y.a, p⟩) 32 := by rw [← hwv]; exact nd_setS G1.out HS.out P3.out
                 have e0 : Blk wv w.heap.size (bva z) 22 := by rw [← hwv]; exact blk_cells G0.out (by omega)
                 have e3 : Blk wv (w3.heap.size + 1) (bva q) 22 := by rw [← hwv]; exact blk_cells G3.out (by omega)
                 have eb : Below w.heap.size w wv := by rw [← hwv]; exact below_cells GB.out (by omega) GB.out.size
                 have c0 : wv.cell? ⟨X, 0, none⟩ = some (.int .i64 (y.d + 1)) := nd_d e1
                 have c1 : wv.cell? ⟨X, 1, none⟩ = some (.int .u64 y.a) := nd_a (x := ⟨y.d + 1, y.a, p⟩) e1
                 have H0 := Lib.hid e0
                 have H1 := Lib.hid e1
                 have H3' := Lib.hid e3
                 have HB := Lib.hid eb
                 clear hwv e0 e1 e3 eb G0 G1 G3 GB))
            try simp only [Act.put]
            go_quiet ((go_at_call 30; exact RetQ.quiet (HMQ.out _)))
            try simp only [List.getElem_toArray, List.getElem_cons_succ, List.getElem_cons_zero, Act.put, List.setIfInBounds_toArray, List.set_cons_zero, List.set_cons_succ]
            rename_i nq
            have J0 := Lib.hid (H0.out.drewN nq)
            have J1 := Lib.hid (H1.out.drewN nq)
            have J3 := Lib.hid (H3'.out.drewN nq)
            have JB := Lib.hid (below_drewN' HB.out nq)
            have c0' : (wv.drewN nq).cell? ⟨X, 0, none⟩ = some (.int .i64 (y.d + 1)) := c0
            have c1' : (wv.drewN nq).cell? ⟨X, 1, none⟩ = some (.int .u64 y.a) := c1
            generalize wv.drewN nq = wu at J0 J1 J3 JB c0' c1' ⊢
            clear H0 H1 H3' HB c0 c1
            by_cases hge : R ≤ m
            · have hge' : decide (R ≤ m) = true := decide_eq_true hge
              go_wp2_with fail
              refine wp_region_any (by kernel_rfl) ?_
              refine wpAny_take (i := 0) (v := ?vt0) rfl (by kernel_rfl) (by kernel_rfl) (by kernel_rfl) (fun _ _ _ h => h) (Or.inl ⟨by rfl, ?yt0⟩) ?_
              case yt0 => (intro w'; go_simp; try with_reducible rfl)
              refine wpAny_take (i := 2) (v := ?vt2) rfl (by kernel_rfl) (by kernel_rfl) (by kernel_rfl) (fun _ _ _ h => h) (Or.inl ⟨by rfl, ?yt2⟩) ?_
              case yt2 => (intro w'; go_simp; try with_reducible rfl)
              try simp only [List.getElem_toArray, List.getElem_cons_succ, List.getElem_cons_zero, Act.put, List.setIfInBounds_toArray, List.set_cons_zero, List.set_cons_succ]
              refine wpAny_ready (rs := [1, 3]) (by kernel_rfl) (by simp) (AllReady.cons rfl (fun K hK => ?_) (AllReady.cons rfl (fun K hK => ?_) AllReady.nil))
              · go_simp
                refine hK _ _ ?_
                clear hK K
                try simp only [List.getElem_toArray, List.getElem_cons_succ, List.getElem_cons_zero, Act.put, List.setIfInBounds_toArray, List.set_cons_zero, List.set_cons_succ]
                refine wpAny_ready (rs := [3]) (by kernel_rfl) (by simp) (AllReady.cons rfl (fun K hK => ?_) AllReady.nil)
                go_simp
                refine hK _ _ ?_
                clear hK K
                try simp only [List.getElem_toArray, List.getElem_cons_succ, List.getElem_cons_zero, Act.put, List.setIfInBounds_toArray, List.set_cons_zero, List.set_cons_succ]
                refine wpAny_call (i := 4) (v := .int .u64 M) rfl (by kernel_rfl) (by kernel_rfl) (by kernel_rfl) (fun _ _ _ h => h) (by rfl) 30 #[.int .i64 (y.d + 1)] (fun _ => by go_simp; try rfl) (fun W => HMP.out W) ?_
                try simp only [List.getElem_toArray, List.getElem_cons_succ, List.getElem_cons_zero, Act.put, List.setIfInBounds_toArray, List.set_cons_zero, List.set_cons_succ]
                refine wpAny_take (i := 5) (v := ?vt5) rfl (by kernel_rfl) (by kernel_rfl) (by kernel_rfl) (fun _ _ _ h => h) (Or.inl ⟨by rfl, ?yt5⟩) ?_
                case yt5 => (intro w'; go_simp; try with_reducible rfl)
                refine wpAny_take (i := 6) (v := ?vt6) rfl (by kernel_rfl) (by kernel_rfl) (by kernel_rfl) (fun _ _ _ h => h) (Or.inl ⟨by rfl, ?yt6⟩) ?_
                case yt6 => (intro w'; go_simp; try with_reducible rfl)
                try simp only [List.getElem_toArray, List.getElem_cons_succ, List.getElem_cons_zero, Act.put, List.setIfInBounds_toArray, List.set_cons_zero, List.set_cons_succ]
                refine wpAny_ready (rs := [7]) (by kernel_rfl) (by simp) (AllReady.cons rfl (fun K hK => ?_) AllReady.nil)
                have fr := J1.out.free 1
                go_simp
                refine hK _ _ ?_
                clear hK K
                try simp only [List.getElem_toArray, List.getElem_cons_succ, List.getElem_cons_zero, Act.put, List.setIfInBounds_toArray, List.set_cons_zero, List.set_cons_succ]
                refine wpAny_done (by kernel_rfl) ?_ _
                generalize hwz : World.drew _ = wz
                have e1 : Blk wz X (ndC ⟨y.d + 1, R, p⟩) 32 := by rw [← hwz]; exact nd_setA J1.out R
                have e0 : Blk wz w.heap.size (bva z) 22 := by rw [← hwz]; exact J0.out.other (by omega) _ _
                have e3 : Blk wz (w3.heap.size + 1) (bva q) 22 := by rw [← hwz]; exact J3.out.other (by omega) _ _
                have eb : Below w.heap.size w wz := by rw [← hwz]; exact (below_cell JB.out (by omega) JB.out.size).drew
                have G0 := Lib.hid e0
                have G1 := Lib.hid e1
                have G3 := Lib.hid e3
                have GB := Lib.hid eb
                clear hwz e0 e1 e3 eb J0 J1 J3 JB fr c0' c1'
                go_wp2_with (first
                  | (refine wpList_load_row rfl 22 (.tmp 9) rfl (w3.heap.size + 1) rfl 22 (bva q) (0, 0) _ G3.out Try.underlying22 rfl HIQ.out ?_)
                  | (refine wpList_store_mid rfl 22 (.tmp 58) (.tmp 57) rfl X 2 (bva q) rfl rfl (there_of_blk G1.out (by rw [ndV_length (x := ⟨y.d + 1, R, p⟩) P3.out, bva_size]; have := Q3.out; omega)) HIQ.out (bva_one _) ?_
                     generalize hwv : World.setCells _ _ _ _ = wv
                     have e1 : Blk wv X (ndC ⟨y.d + 1, R, q⟩) 32 := by rw [← hwv]; exact nd_setS G1.out P3.out Q3.out
                     have e0 : Blk wv w.heap.size (bva z) 22 := by rw [← hwv]; exact blk_cells G0.out (by omega)
                     have eb : Below w.heap.size w wv := by rw [← hwv]; exact below_cells GB.out (by omega) GB.out.size
                     have H0 := Lib.hid e0
                     have H1 := Lib.hid e1
                     have HB := Lib.hid eb
                     clear hwv e0 e1 eb G0 G1 G3 GB))
                have es : stepK y m = ⟨y.d + 1, R, q⟩ := by rw [stepK, ← HMM.out, hR, if_pos hge, ndR, ← HMM.out, hR, ← HQ.out]
                have ed := depthAt_eq H1.out
                have ew := HDW.out
                try simp only [Act.put]
                go_roundw
                case rel => exact ⟨⟨y.d + 1, R, q⟩, ⟨by have := HY.out.1; show 0 ≤ y.d + 1; omega, by show y.d + 1 ≤ 17; omega, Q3.out⟩, H1.out, H0.out, HB.out, by show _ = _; rw [← HG.out, goL_step y m h17, es]⟩
                case measure => rw [ed, ew]; show (17 - (y.d + 1)).toNat < _; omega
              · go_simp
                refine hK _ _ ?_
                clear hK K
                try simp only [List.getElem_toArray, List.getElem_cons_succ, List.getElem_cons_zero, Act.put, List.setIfInBounds_toArray, List.set_cons_zero, List.set_cons_succ]
                refine wpAny_call (i := 4) (v := .int .u64 M) rfl (by kernel_rfl) (by kernel_rfl) (by kernel_rfl) (fun _ _ _ h => h) (by rfl) 30 #[.int .i64 (y.d + 1)] (fun _ => by go_simp; try rfl) (fun W => HMP.out W) ?_
                try simp only [List.getElem_toArray, List.getElem_cons_succ, List.getElem_cons_zero, Act.put, List.setIfInBounds_toArray, List.set_cons_zero, List.set_cons_succ]
                refine wpAny_ready (rs := [1]) (by kernel_rfl) (by simp) (AllReady.cons rfl (fun K hK => ?_) AllReady.nil)
                go_simp
                refine hK _ _ ?_
                clear hK K
                try simp only [List.getElem_toArray, List.getElem_cons_succ, List.getElem_cons_zero, Act.put, List.setIfInBounds_toArray, List.set_cons_zero, List.set_cons_succ]
                refine wpAny_take (i := 5) (v := ?vt5) rfl (by kernel_rfl) (by kernel_rfl) (by kernel_rfl) (fun _ _ _ h => h) (Or.inl ⟨by rfl, ?yt5⟩) ?_
                case yt5 => (intro w'; go_simp; try with_reducible rfl)
                refine wpAny_take (i := 6) (v := ?vt6) rfl (by kernel_rfl) (by kernel_rfl) (by kernel_rfl) (fun _ _ _ h => h) (Or.inl ⟨by rfl, ?yt6⟩) ?_
                case yt6 => (intro w'; go_simp; try with_reducible rfl)
                try simp only [List.getElem_toArray, List.getElem_cons_succ, List.getElem_cons_zero, Act.put, List.setIfInBounds_toArray, List.set_cons_zero, List.set_cons_succ]
                refine wpAny_ready (rs := [7]) (by kernel_rfl) (by simp) (AllReady.cons rfl (fun K hK => ?_) AllReady.nil)
                have fr := J1.out.free 1
                go_simp
                refine hK _ _ ?_
                clear hK K
                try simp only [List.getElem_toArray, List.getElem_cons_succ, List.getElem_cons_zero, Act.put, List.setIfInBounds_toArray, List.set_cons_zero, List.set_cons_succ]
                refine wpAny_done (by kernel_rfl) ?_ _
                generalize hwz : World.drew _ = wz
                have e1 : Blk wz X (ndC ⟨y.d + 1, R, p⟩) 32 := by rw [← hwz]; exact nd_setA J1.out R
                have e0 : Blk wz w.heap.size (bva z) 22 := by rw [← hwz]; exact J0.out.other (by omega) _ _
                have e3 : Blk wz (w3.heap.size + 1) (bva q) 22 := by rw [← hwz]; exact J3.out.other (by omega) _ _
                have eb : Below w.heap.size w wz := by rw [← hwz]; exact (below_cell JB.out (by omega) JB.out.size).drew
                have G0 := Lib.hid e0
                have G1 := Lib.hid e1
                have G3 := Lib.hid e3
                have GB := Lib.hid eb
                clear hwz e0 e1 e3 eb J0 J1 J3 JB fr c0' c1'
                go_wp2_with (first
                  | (refine wpList_load_row rfl 22 (.tmp 9) rfl (w3.heap.size + 1) rfl 22 (bva q) (0, 0) _ G3.out Try.underlying22 rfl HIQ.out ?_)
                  | (refine wpList_store_mid rfl 22 (.tmp 58) (.tmp 57) rfl X 2 (bva q) rfl rfl (there_of_blk G1.out (by rw [ndV_length (x := ⟨y.d + 1, R, p⟩) P3.out, bva_size]; have := Q3.out; omega)) HIQ.out (bva_one _) ?_
                     generalize hwv : World.setCells _ _ _ _ = wv
                     have e1 : Blk wv X (ndC ⟨y.d + 1, R, q⟩) 32 := by rw [← hwv]; exact nd_setS G1.out P3.out Q3.out
                     have e0 : Blk wv w.heap.size (bva z) 22 := by rw [← hwv]; exact blk_cells G0.out (by omega)
                     have eb : Below w.heap.size w wv := by rw [← hwv]; exact below_cells GB.out (by omega) GB.out.size
                     have H0 := Lib.hid e0
                     have H1 := Lib.hid e1
                     have HB := Lib.hid eb
                     clear hwv e0 e1 eb G0 G1 G3 GB))
                have es : stepK y m = ⟨y.d + 1, R, q⟩ := by rw [stepK, ← HMM.out, hR, if_pos hge, ndR, ← HMM.out, hR, ← HQ.out]
                have ed := depthAt_eq H1.out
                have ew := HDW.out
                try simp only [Act.put]
                go_roundw
                case rel => exact ⟨⟨y.d + 1, R, q⟩, ⟨by have := HY.out.1; show 0 ≤ y.d + 1; omega, by show y.d + 1 ≤ 17; omega, Q3.out⟩, H1.out, H0.out, HB.out, by show _ = _; rw [← HG.out, goL_step y m h17, es]⟩
                case measure => rw [ed, ew]; show (17 - (y.d + 1)).toNat < _; omega
            · have hge' : decide (R ≤ m) = false := decide_eq_false hge
              go_wp2_with fail
              have es : stepK y m = ⟨y.d + 1, y.a, p⟩ := by rw [stepK, ← HMM.out, hR, if_neg hge, ndL, ← HP.out]
              have ed := depthAt_eq J1.out
              have ew := HDW.out
              exact ⟨⟨⟨y.d + 1, y.a, p⟩, ⟨by have := HY.out.1; show 0 ≤ y.d + 1; omega, by show y.d + 1 ≤ 17; omega, P3.out⟩, J1.out, J0.out, JB.out, by show _ = _; rw [← HG.out, goL_step y m h17, es]⟩, by rw [ed, ew]; show (17 - (y.d + 1)).toNat < _; omega⟩
          · have HIX : Hid ((Try.prog.info? 22).map (·.size) = some (bv y.s).length) := by rw [bv_length, HS.out]; exact info_b32
            have HIY : Hid ((Try.prog.info? 22).map (·.size) = some (bva y.s).size) := by rw [bva_size, HS.out]; exact info_b32
            have hgo := goL_end y m h17
            have HFX : Hid (l.find? (inI · m) = some x) := by
              have e : l.find? (inI · m) = (l.take (k + 1) ++ l.drop (k + 1)).find? (inI · m) := by rw [List.take_append_drop]
              show _ = _
              rw [e, List.find?_append, List.take_succ_eq_append_getElem hkl, List.find?_append, HF.out, ← HXE.out]
              simp [hin]
            have c0 := nd_d f1
            have C1 := Lib.hid f1
            have C2 := Lib.hid f2
            have CB := Lib.hid fb
            have HGO := Lib.hid hgo
            clear f1 f2 fb hgo
            go_wp2_with (first
              | (refine wpList_load_mid rfl 22 (.tmp 59) rfl X 2 rfl (bv y.s) _ (nd_s C1.out) Try.underlying22 rfl HIX.out ?_
                 change wpList _ _ _ _ (Act.put _ _ (.agg (bva y.s))) _)
              | (refine wpList_store_row rfl 22 (.tmp 4) (.tmp 60) rfl w.heap.size (bva y.s) rfl rfl 22 (bva z) C2.out HIY.out (by simp only [bva_size, HS.out, Z3.out]) (bva_one _) ?_))
            exact bodyPost_ret (v := .tuple #[.agg (bva y.s), .bool true]) (results_ct Try.results14 _ _ w.heap.size 22 (bva y.s) _ rfl (setRow_heap _ _ _ _ _ _ C2.out) Try.underlying22 rfl HIY.out) rfl ⟨by rw [HFX.out, keyV_some, ← HG.out, HGO.out], below_setRow CB.out (Nat.le_refl _) _⟩
      · have hin' : inI x m = false := by simpa using hin
        go_wp2_with (refine wpList_load_at rfl 32 (.tmp 18) rfl (ad.add (k * 34)) rfl (HCL.out _ DB.out) Try.underlying32 rfl HI.out ?_
                     change wpList _ _ _ _ (Act.put _ _ (.agg (ndC x))) _)
        refine (in_any x (by have := HX.out.1; omega) HX.out.2.2.1 m HM.out _).mono ?_
        rintro e w2 ⟨rfl, bw⟩
        rw [hin']
        have E1 := Lib.hid (D1.out.below bw)
        have EB := Lib.hid (DB.out.trans (bw.mono DB.out.size))
        clear bw D1 DB
        go_wp2_with fail
        go_roundw
        case rel => exact ⟨k + 1, by omega, by go_num, by show _ = _; rw [List.take_succ_eq_append_getElem hkl, List.find?_append, HF.out, ← HXE.out]; simp [hin'], E1.out, EB.out⟩
        case measure => simp [intOf]; omega
    · obtain rfl : k = n := by omega
      have HFN : Hid (l.find? (inI · m) = none) := by
        have h := HF.out
        rw [List.take_of_length_le (by rw [HL.out]; exact Nat.le_refl _)] at h
        exact h
      have HIZ : Hid ((Try.prog.info? 22).map (·.size) = some (bva z).size) := by rw [bva_size, Z3.out]; exact info_b32
      have D1 := Lib.hid b1
      have DB := Lib.hid hbw
      clear b1 hbw
      go_wp2_with (first
        | (refine wpList_build (v := .agg (bva z)) rfl 22 #[] rfl ?hbb ?_
           case hbb => exact HBZ.out _)
        | (refine wpList_store_row rfl 22 (.tmp 4) (.tmp 61) rfl w.heap.size (bva z) rfl rfl 22 (bva z) D1.out HIZ.out rfl (bva_one _) ?_))
      exact bodyPost_ret (v := .tuple #[.agg (bva z), .bool false]) (results_ct Try.results14 _ _ w.heap.size 22 (bva z) _ rfl (setRow_heap _ _ _ _ _ _ D1.out) Try.underlying22 rfl HIZ.out) rfl ⟨by rw [HFN.out, keyV_none, ← Z0.out], below_setRow DB.out (Nat.le_refl _) _⟩
end Go.Proofs.Ytkfcllcdkgnfbaa.Kt
