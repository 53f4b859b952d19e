/-
  Texts of this seat, one behind the other: MiBoth, LoNewest, MiChoose, MiUno, KdRotP, MiSee, MuSee, MiHeal, MiSync, MiRepeat, MiNew, MiMd, MiMd2, MiMd3, MuMd, MuMd2, MuMd3, MiLaw, MuLaw, SxGood, SxGd.
-/
import Derived.Laws.Bits64b
import Derived.OrdersHeld
import Derived.Deep.RegionHeld
import Derived.Test.YthadomboiockhaaLa3
/-
  The contract of the mirror's Both.
-/
namespace Go.Proofs.Ythadomboiockhaa.Mi
open Go.RowKit Kd
attribute [local go_sem ↓] Go.wp_at_zero Go.wp_at_succ
section
variable {C : Duo} {G : Gd} {g : Nat} {w : World} {s : Mr C} {F : Nat → Prop}
/-- What the first p devices read of a place, as far as it may stand. -/
def bothTo (C : Duo) (G : Gd) (d : C.L.St) (n : Int) : Nat → List (List UInt8)
  | 0 => []
  | p + 1 => bothTo C G d n p ++ if rdOk C G d p n then [(C.rd d p n).2] else []
def bothL (G : Gd) (s : Mr C) (n : Int) : List (List UInt8) := if has s n then bothTo C G s.d n 2 else []
theorem bothTo_len (h : (ML C G g).At w s F) (n : Int) : ∀ p, p ≤ 2 → ∀ x ∈ bothTo C G s.d n p, x.length = 128
  | 0, _ => fun x hx => by cases hx
  | p + 1, hp => fun x hx => by
    rw [bothTo, List.mem_append] at hx
    rcases hx with hx | hx
    · exact bothTo_len h n p (by omega) x hx
    · split at hx
      · rw [List.mem_singleton] at hx
        subst hx
        obtain ⟨F1, hd, _⟩ := ml_dev h
        exact C.rd_len hd (by omega)
      · cases hx
theorem bothTo_few (d : C.L.St) (n : Int) : ∀ p, (bothTo C G d n p).length ≤ p
  | 0 => Nat.le_refl _
  | p + 1 => by
    rw [bothTo, List.length_append]
    have := bothTo_few d n p
    split <;> simp <;> omega
/-- It returns a new row of sectors. -/
def RetSec (l : List (List UInt8)) (w : World) (e : Ending) (w' : World) : Prop :=
  ∃ A n c, e = .returned (.slice A n c) ∧ l.length = n ∧ w'.ownsRow w.heap.size 38 128 (.slice A n c) n (svs l) ∧ Below w.heap.size w w'
set_option maxRecDepth 100000 in
set_option maxHeartbeats 3200000 in
theorem both_no {p : Option Addr} {n : Int} (hc : Calls Try.prog 109 #[.pointer p, .int .i64 n] w (RetB (.bool false) w)) : Calls Try.prog 126 #[.pointer p, .int .i64 n] w (RetSec [] w) := by
  have HC := Lib.hid hc
  clear hc
  go_enter Try.func126, Try.ntmps126
  go_wp2_with fail
  refine HC.out.mono ?_
  rintro e w1 ⟨rfl, bw⟩
  have B1 := Lib.hid bw
  clear bw
  go_wp2_with fail
  go_ret
  exact ⟨none, 0, 0, rfl, rfl, World.ownsRow_nil _ _ _ _, B1.out⟩
theorem both_nil (n : Int) : Calls Try.prog 126 #[.pointer none, .int .i64 n] w (RetSec [] w) := both_no (has_nil w n)
set_option maxRecDepth 100000 in
set_option maxHeartbeats 12800000 in
theorem both_any (h : (ML C G g).At w s F) (n : Int) : Calls Try.prog 126 #[.pointer (some ⟨g, 0, none⟩), .int .i64 n] w (RetSec (bothL G s n) w) := by
  cases hh : has s n with
  | false =>
    rw [bothL, hh, if_neg (by simp)]
    have := has_any h n
    rw [hh] at this
    exact both_no this
  | true =>
    obtain ⟨z, hz0⟩ : ∃ z : List UInt8, z = zeroS := ⟨_, rfl⟩
    have hz : ∀ W, (zeroValue 38).run Try.prog W = .ok (.agg (bva z)) W := fun _ => by rw [hz0]; kernel_rfl
    have HZ3 := Lib.hid (show z.length = 128 by rw [hz0]; exact zeroS_length)
    have hcc := has_any h n
    rw [hh] at hcc
    have HC := Lib.hid hcc
    have H := Lib.hid h
    rw [bothL, hh, if_pos rfl]
    clear hz0 hcc hh h
    go_enter Try.func126, Try.ntmps126
    go_wp2_with fail
    refine HC.out.mono ?_
    rintro e w1 ⟨rfl, bw⟩
    have B1 := Lib.hid bw
    clear bw HC
    go_wp2_with fail
    go_loopw [4, 12] (fun l x wr => ∃ (p : Nat) (A : Option Addr) (k c : Nat), p ≤ 2 ∧ x = .int .i64 p ∧ l = .slice A k c ∧ (bothTo C G s.d n p).length = k ∧ wr.ownsRow w.heap.size 38 128 (.slice A k c) k (svs (bothTo C G s.d n p)) ∧ Below w.heap.size w wr) (fun _ x _ => 2 - (intOf x).toNat)
    case atStart => exact ⟨0, none, 0, 0, by omega, rfl, rfl, rfl, World.ownsRow_nil _ _ _ _, B1.out⟩
    case round =>
      clear B1
      obtain ⟨p, A, k, c, hp, rfl, rfl, hk, ho, hb⟩ := hrel
      have HP := Lib.hid hp
      have HK := Lib.hid hk
      have O := Lib.hid ho
      have B := Lib.hid hb
      clear hp hk ho hb
      by_cases hlt : p < 2
      · have HPL := Lib.hid hlt
        have HR := Lib.hid (reads_any ((ML C G g).below H.out B.out) hlt n)
        have HS := Lib.hid (show bothTo C G s.d n (p + 1) = bothTo C G s.d n p ++ if rdOk C G s.d p n then [rdVal C G s.d p n] else [] by rw [bothTo, rdVal]; split <;> rfl)
        obtain ⟨y, hy⟩ : ∃ y, y = rdVal C G s.d p n := ⟨_, rfl⟩
        have HY3 := Lib.hid (show y.length = 128 by rw [hy, rdVal]; split; exact (ml_dev H.out).elim (fun F1 h => C.rd_len h.1 hlt); exact zeroS_length)
        have HIY : Hid ((Try.prog.info? 38).map (·.size) = some (bva y).size) := by rw [bva_size, HY3.out]; exact info_sec
        obtain ⟨o, ho⟩ : ∃ o, o = rdOk C G s.d p n := ⟨_, rfl⟩
        have HF := Lib.hid (bothTo_few (G := G) s.d n p)
        rw [← hy, ← ho] at HR HS
        have p0 : (0 : Int) ≤ (p : Int) := by omega
        have p1 : (p : Int) < 2 := by omega
        clear hy ho hlt
        go_wp2_with fail
        refine HR.out.mono ?_
        rintro e w2 ⟨rfl, bw⟩
        have O2 := Lib.hid (own_belowN O.out bw)
        have B2 := Lib.hid (B.out.trans (bw.mono B.out.size))
        clear bw O B HR
        go_wp2_with (show wpList _ _ _ ({ dst := none, op := .store 38 (.tmp 6) (.tmp 20), type := _, pos := _, after := _, guard := _ } :: _) _ _; apply Classical.byContradiction; intro hneg)
        refine hneg ?_
        clear hneg
        refine wpList_store_row rfl 38 (.tmp 6) (.tmp 20) rfl w2.heap.size (bva y) rfl rfl 38 (bva z) (heap_alloc_new _ _) HIY.out (by rw [bva_size, bva_size, HY3.out, HZ3.out]) (bva_one _) ?_
        obtain ⟨w3, hw3⟩ : ∃ w3, w3 = (w2.alloc (.cells (bva z) 38)).setRow w2.heap.size (bva y) := ⟨_, rfl⟩
        have hbw3 : Below w2.heap.size w2 w3 := by rw [hw3]; exact below_setRow ((Below.refl _ _).alloc (Nat.le_refl _) _) (Nat.le_refl _) _
        have BXw3 := Lib.hid (show Blk w3 w2.heap.size (bva y) 38 from by rw [hw3]; exact setRow_heap _ _ _ _ _ _ (heap_alloc_new _ _))
        rw [← hw3]
        clear hw3
        have O3 := Lib.hid (own_belowN O2.out hbw3)
        have B3 := Lib.hid (B2.out.trans (hbw3.mono B2.out.size))
        clear hbw3 O2 B2
        cases o
        · have HE := Lib.hid (show bothTo C G s.d n (p + 1) = bothTo C G s.d n p by rw [HS.out, if_neg (by simp), List.append_nil])
          go_wp2_with fail
          go_roundw
          case rel => exact ⟨p + 1, A, k, c, HPL.out, by go_num, rfl, by rw [HE.out]; exact HK.out, by rw [HE.out]; exact O3.out, B3.out⟩
          case measure => (have := HPL.out; simp [intOf]; omega)
        · have HE := Lib.hid (show bothTo C G s.d n (p + 1) = bothTo C G s.d n p ++ [y] by rw [HS.out, if_pos rfl])
          obtain ⟨L, hL⟩ : ∃ L, L = bothTo C G s.d n p := ⟨_, rfl⟩
          rw [← hL] at HE HK O3 HF
          have BA := Lib.hid (show Below w3.heap.size w3 (w3.alloc (.cells (bva y) 38)) from (Below.refl _ _).alloc (Nat.le_refl _) _)
          have RA := Lib.hid (show Rd (w3.alloc (.cells (bva y) 38)).heap.size (w3.alloc (.cells (bva y) 38)) (some ⟨w3.heap.size, 0, none⟩) (bv y) from by
            have hb5 : Blk (w3.alloc (.cells (bva y) 38)) w3.heap.size (bva y) 38 := heap_alloc_new _ _
            intro j v hv
            exact ⟨_, rfl, hb5.lt, by rw [Addr.add_mid, hb5.cell, Nat.zero_add]; simpa [bva] using hv⟩)
          clear hL HS
          go_wp2_with (show wpList _ _ _ ({ dst := some 24, op := .load 38 (.tmp 6), type := _, pos := _, after := _, guard := _ } :: _) _ _; apply Classical.byContradiction; intro hneg)
          refine hneg ?_
          clear hneg
          refine wpList_load_row rfl 38 (.tmp 6) rfl w2.heap.size rfl 38 (bva y) (0, 0) _ BXw3.out Try.underlying38 rfl HIY.out ?_
          go_wp2_with (show wpList _ _ _ ({ dst := some 25, op := .buildSlice 43 1 #[(0, .tmp 24)], type := _, pos := _, after := _, guard := _ } :: _) _ _; apply Classical.byContradiction; intro hneg)
          refine hneg ?_
          clear hneg
          refine wpList_execg8 (v := .slice (some ⟨w3.heap.size, 0, none⟩) 1 1) (w' := w3.alloc (.cells (bva y) 38)) rfl (exec_buildSlice 43 1 #[(0, .tmp 24)] rfl ?hbld) ?_
          case hbld =>
            simp only [List.map_toArray, List.map_cons, List.map_nil]
            exact run_oneN secsElt _ (.agg (bva y)) (by show (bva y).size = 128; rw [bva_size, HY3.out]) (by omega)
          go_wp2_with (at_builtin; apply Classical.byContradiction; intro hneg)
          refine hneg ?_
          clear hneg
          refine wpList_appN _ rfl (.tmp 23) (.tmp 25) 43 rfl secsElt (base := w.heap.size) (v := .slice A k c) (n := k) (xs := svs L) rfl (own_belowN O3.out BA.out) (m := 1) rfl RA.out (by rw [bv_length, HY3.out]) (bv_one _) (by have := HF.out; have := HK.out; omega) (Nat.le_trans B3.out.size BA.out.size) ?_
          intro A6 c6 w6 ho6 hg6 hl6
          have B6 := Lib.hid (app_belowN (B3.out.trans (BA.out.mono B3.out.size)) (own_belowN O3.out BA.out) hg6 (Nat.le_refl _) (Nat.le_trans B3.out.size BA.out.size))
          have O6 := Lib.hid (show World.ownsRow w6 w.heap.size 38 128 (.slice A6 (k + 1) c6) (k + 1) (svs (L ++ [y])) from by rw [svs_append, svs, svs, List.append_nil]; exact ho6)
          clear ho6 hg6 hl6 BXw3 O3 B3 BA RA
          go_wp2_with fail
          go_roundw
          case rel => exact ⟨p + 1, A6, k + 1, c6, HPL.out, by go_num, rfl, by rw [HE.out, List.length_append, HK.out]; rfl, by rw [HE.out]; exact O6.out, B6.out⟩
          case measure => (have := HPL.out; simp [intOf]; omega)
      · obtain rfl : p = 2 := by have := HP.out; omega
        clear hlt
        go_wp2_with fail
        go_ret
        exact ⟨A, k, c, rfl, HK.out, O.out, B.out⟩
end
end Go.Proofs.Ythadomboiockhaa.Mi
/-
  What newest tells: of what both devices have at a place, the sealed sector with the greatest generation, and what is found in it.
-/
namespace Go.Proofs.Ythadomboiockhaa.Lo
open Go.RowKit Go.Maps Kd Mi Sx Sg
attribute [local go_sem ↓] Go.wp_at_zero Go.wp_at_succ
/-- Which of some sectors is found: the one with the greatest generation, of two alike the first one. -/
def gtO (o : Option (List UInt8)) (y : List UInt8) : Bool := match o with | none => true | some x => decide (genS x < genS y)
def pickT (f : List UInt8 → List UInt8 → List UInt8) (a : Int) (o : Option (List UInt8)) (y : List UInt8) : Option (List UInt8) :=
  if okS f a y && gtO o y then some y else o
def pickL (f : List UInt8 → List UInt8 → List UInt8) (a : Int) (L : List (List UInt8)) : Option (List UInt8) := L.foldl (pickT f a) none
theorem pickL_take {f : List UInt8 → List UInt8 → List UInt8} {a : Int} {L : List (List UInt8)} {k : Nat} (hk : k < L.length) : pickL f a (L.take (k + 1)) = pickT f a (pickL f a (L.take k)) (L.getD k zeroS) := by
  rw [pickL, List.take_succ_eq_append_getElem hk, List.foldl_append, List.getD_eq_getElem?_getD, List.getElem?_eq_getElem hk]; rfl
theorem pickL_ok {f : List UInt8 → List UInt8 → List UInt8} {a : Int} {L : List (List UInt8)} {y : List UInt8} (h : pickL f a L = some y) : okS f a y = true ∧ y ∈ L := by
  have go : ∀ (L : List (List UInt8)) (o : Option (List UInt8)), L.foldl (pickT f a) o = some y → o = some y ∨ (okS f a y = true ∧ y ∈ L) := by
    intro L
    induction L with
    | nil => exact fun o h => .inl h
    | cons x L ih =>
      intro o h
      rcases ih _ h with h1 | ⟨h1, h2⟩
      · by_cases hc : (okS f a x && gtO o x) = true
        · rw [pickT, if_pos hc] at h1
          injection h1 with h1
          subst h1
          exact .inr ⟨(Bool.and_eq_true _ _ ▸ hc).1, List.mem_cons_self ..⟩
        · rw [pickT, if_neg hc] at h1
          exact .inl h1
      · exact .inr ⟨h1, List.mem_cons_of_mem _ h2⟩
  exact (go L none h).resolve_left (by simp)
def faO (a : Int) (o : Option (List UInt8)) : Int := if o.isSome then a else 0
def fgO (o : Option (List UInt8)) : Nat := match o with | none => 0 | some y => genS y
def fbO (o : Option (List UInt8)) : List UInt8 := match o with | none => [] | some y => bodyS y
def fsO (o : Option (List UInt8)) : List UInt8 := o.getD zeroS
/-- It returns what is found, its sealed sector, and whether there is one; the body in new memory. -/
def RetNw (a : Int) (o : Option (List UInt8)) (w : World) (e : Ending) (w' : World) : Prop :=
  ∃ A n c, e = .returned (.tuple #[.agg #[.int .i64 (faO a o), .int .u64 (fgO o : Int), .slice A n c], .agg (bva (fsO o)), .bool o.isSome]) ∧
    w'.ownsRow w.heap.size 5 1 (.slice A n c) n (bv (fbO o)) ∧ Below w.heap.size w w'
theorem results_ccs {P : Program} {fn : Func} {x y z : Tmp} {t u : TypeId} (h : fn.results = #[.cell x t, .cell y u, .tmp z]) (tmps : Array Value) (w : World) (g g' : Nat) (cs cs' : Array Value) {d d' : TypeDesc}
    (hp : tmps.getD x undef = .pointer (some ⟨g, 0, none⟩)) (hq : tmps.getD y undef = .pointer (some ⟨g', 0, none⟩)) (hg : Blk w g cs t) (hg' : Blk w g' cs' u)
    (hu : P.underlying t = some d) (hd : (match d with | .struct _ | .array _ _ => true | _ => false) = true) (hi : (P.info? t).map (·.size) = some cs.size)
    (hu' : P.underlying u = some d') (hd' : (match d' with | .struct _ | .array _ _ => true | _ => false) = true) (hi' : (P.info? u).map (·.size) = some cs'.size) :
    (results fn tmps).run P w = .ok (.tuple #[.agg cs, .agg cs', tmps.getD z undef]) w := by
  have hp' : tmps[x]?.getD undef = .pointer (some ⟨g, 0, none⟩) := by simpa using hp
  have hq' : tmps[y]?.getD undef = .pointer (some ⟨g', 0, none⟩) := by simpa using hq
  simp [results, h, hp', hq', asAddr, run_loadVar_row w g t t cs (0, 0) d hg hu hd hi, run_loadVar_row w g' u u cs' (0, 0) d' hg' hu' hd' hi']
section
variable {C : Duo} {G : Gd} {g q bm : Nat} {ci : SCiph} {w w' : World} {s s' : Mr C} {r r' : Rl} {F1 F2 F5 F T : Nat → Prop}
def nwC (a : Int) (o : Option (List UInt8)) (A : Option Addr) (n c : Nat) : Array Value := #[.int .i64 (faO a o), .int .u64 (fgO o : Int), .slice A n c]
set_option maxRecDepth 100000 in
set_option maxHeartbeats 6400000 in
theorem newest_any (h : (LogR C G g q ci).At w (s, r) F) (k : Int) : Calls Try.prog 115 #[.pointer (some ⟨q, 0, none⟩), .int .i64 k] w (RetNw k (pickL ci.f k (bothL G s k)) w) := by
  obtain ⟨F1, F2, hm, ⟨bm, ho, hq, hbm, h3⟩, hd, hF⟩ := h
  have ho : RlO g q bm ci w r := ho
  have hm : (ML C G g).At w s F1 := hm
  have HBO := Lib.hid (fun W (h : (ML C G g).At W s F1) => both_any h k)
  have HO := Lib.hid ho
  have HM := Lib.hid hm
  have HL3 := Lib.hid (show ∀ x ∈ bothL G s k, x.length = 128 by
    intro x hx
    unfold bothL at hx
    split at hx
    · exact bothTo_len hm k 2 (Nat.le_refl _) x hx
    · cases hx)
  obtain ⟨L, hL⟩ : ∃ L, L = bothL G s k := ⟨_, rfl⟩
  rw [← hL] at HBO HL3
  rw [← hL]
  obtain ⟨z, hz0⟩ : ∃ z : List UInt8, z = zeroS := ⟨_, rfl⟩
  have hz : ∀ W, (zeroValue 38).run Try.prog W = .ok (.agg (bva z)) W := fun _ => by rw [hz0]; kernel_rfl
  have hzf : ∀ W, (zeroValue 113).run Try.prog W = .ok (.agg #[.int .i64 0, .int .u64 0, .slice none 0 0]) W := fun _ => by kernel_rfl
  have HZ3 := Lib.hid (show z.length = 128 by rw [hz0]; exact zeroS_length)
  have HQ := Lib.hid (show ¬ w.heap.size ≤ q ∧ ¬ w.heap.size ≤ bm by have := ho.lt; omega)
  have HIS := Lib.hid (show ∀ y : List UInt8, y.length = 128 → (Try.prog.info? 38).map (·.size) = some (bva y).size from fun y hy => by rw [bva_size, hy]; exact info_sec)
  have HZZ := Lib.hid hz0
  clear ho hm hq hbm h3 hd hF hL hz0
  go_enter Try.func115, Try.ntmps115
  go_upto_region 1 with fail
  obtain ⟨w1, hw1⟩ : ∃ W, W = (w.alloc (.cells #[.int .i64 0, .int .u64 0, .slice none 0 0] 113)).alloc (.cells (bva z) 38) := ⟨_, rfl⟩
  rw [← hw1]
  obtain ⟨b4, hb4⟩ : ∃ b, b = w.heap.size := ⟨_, rfl⟩
  have BW1 := Lib.hid (show Below w.heap.size w w1 by rw [hw1]; exact ((Below.refl _ _).alloc (Nat.le_refl _) _).alloc (by simp) _)
  have S1 := Lib.hid (show w1.heap.size = b4 + 2 by rw [hw1, hb4]; simp)
  have X4 := Lib.hid (show Blk w1 b4 (nwC k none none 0 0) 113 by rw [hw1, hb4]; exact (show Blk (w.alloc _) w.heap.size _ 113 from heap_alloc_new _ _).below ((Below.refl _ _).alloc (Nat.le_refl _) _))
  have X5 := Lib.hid (show Blk w1 (b4 + 1) (bva (fsO none)) 38 by rw [hw1, hb4, show fsO none = z from HZZ.out.symm]; exact heap_alloc2_new _ _ _)
  have O1 := Lib.hid (HO.out.below BW1.out)
  have M1 := Lib.hid ((ML C G g).below HM.out BW1.out)
  have HB4 := Lib.hid hb4
  rw [← hb4]
  clear hw1 hb4 HO HM
  have c0 : w1.cell? ⟨q, 0, none⟩ = some (.pointer (some ⟨g, 0, none⟩)) := O1.out.blk.cell 0
  go_wp2_with fail
  refine (HBO.out _ M1.out).mono ?_
  rintro e w2 ⟨AL, n, cL, rfl, hln, hown, bw⟩
  have OL2 := Lib.hid (show w2.ownsRow (b4 + 2) 38 128 (.slice AL n cL) n (svs L) by rw [← S1.out]; exact hown)
  have HN := Lib.hid (show L.length = n ∧ n ≤ 9223372036854775807 by
    have hc := own_cap hown
    unfold maxLen at hc
    exact ⟨hln, by omega⟩)
  have BW2 := Lib.hid (BW1.out.trans (bw.mono BW1.out.size))
  have X42 := Lib.hid (X4.out.below bw)
  have X52 := Lib.hid (X5.out.below bw)
  have O2 := Lib.hid (O1.out.below bw)
  clear hown bw hln c0 X4 X5 O1 M1 HBO BW1
  go_wp2_with fail
  go_loopw [6, 19] (fun x i wr => ∃ p : Nat, p ≤ n ∧ i = .int .i64 p ∧ x = .bool (pickL ci.f k (L.take p)).isSome ∧ ∃ A nb cb, Hid (Blk wr b4 (nwC k (pickL ci.f k (L.take p)) A nb cb) 113) ∧ Hid (Blk wr (b4 + 1) (bva (fsO (pickL ci.f k (L.take p)))) 38) ∧
    Hid (wr.ownsRow (b4 + 2) 5 1 (.slice A nb cb) nb (bv (fbO (pickL ci.f k (L.take p))))) ∧ Hid (wr.ownsRow (b4 + 2) 38 128 (.slice AL n cL) n (svs L)) ∧ Hid (Below w.heap.size w wr) ∧ Hid (RlO g q bm ci wr r)) (fun _ i _ => n - (intOf i).toNat)
  case atStart => exact ⟨0, Nat.zero_le _, rfl, rfl, none, 0, 0, X42, X52, Lib.hid (World.ownsRow_nil _ _ _ _), OL2, BW2, O2⟩
  case round =>
    obtain ⟨p, hp, rfl, rfl, A, nb, cb, Y4, Y5, OB, OL, BR, OR⟩ := hrel
    obtain ⟨o, ho⟩ : ∃ o, o = pickL ci.f k (L.take p) := ⟨_, rfl⟩
    rw [← ho] at Y4 Y5 OB
    rw [← ho]
    have HFS := Lib.hid (show (fsO o).length = 128 by
      cases hx : o with
      | none => exact zeroS_length
      | some x => exact HL3.out x (List.mem_of_mem_take (pickL_ok (ho.symm.trans hx)).2))
    have HP := Lib.hid hp
    have HOE := Lib.hid ho
    by_cases hlt : p < n
    · have HLT := Lib.hid hlt
      have j0 : (0 : Int) ≤ (p : Int) := by omega
      have j1 : (p : Int) < (n : Int) := by omega
      have wp1 : IntKind.i64.wrap ((p : Int) + 1) = ((p + 1 : Nat) : Int) := IntWalk.i64_in _ (by have := HN.out.2; omega)
      have hpl : p < L.length := by rw [HN.out.1]; exact hlt
      obtain ⟨ad, hA1, _, hcell⟩ := rd_sec (Rd.ownN OL.out) HL3.out hpl
      subst hA1
      obtain ⟨y, hy⟩ : ∃ y, y = L[p] := ⟨_, rfl⟩
      rw [← hy] at hcell
      have HY3 := Lib.hid (show y.length = 128 by rw [hy]; exact HL3.out _ (List.getElem_mem hpl))
      have HIY := Lib.hid (HIS.out y HY3.out)
      have HIYv := Lib.hid (show (Try.prog.info? 38).map (·.size) = some (bv y).length by rw [bv_length, HY3.out]; exact info_sec)
      have HCE := Lib.hid hcell
      have HT := Lib.hid (show pickL ci.f k (L.take (p + 1)) = pickT ci.f k o y by rw [pickL_take hpl, List.getD_eq_getElem?_getD, List.getElem?_eq_getElem hpl, ← hy, ho]; rfl)
      obtain ⟨ok, hok⟩ : ∃ x, x = okS ci.f k y := ⟨_, rfl⟩
      obtain ⟨us, hus2⟩ : ∃ x, x = unpackS ci.f k y := ⟨_, rfl⟩
      have HUS2 := Lib.hid (show us = if ok then (genS y, bodyS y) else (0, []) by rw [hus2, unpackS, hok])
      have hup := fun W => unpack_any ci k y HY3.out W
      simp only [← hus2, ← hok] at hup
      obtain ⟨u1, hu1⟩ : ∃ x, x = us.1 := ⟨_, rfl⟩
      obtain ⟨u2, hu2⟩ : ∃ x, x = us.2 := ⟨_, rfl⟩
      rw [← hu1, ← hu2] at hup
      have HUE := Lib.hid (And.intro hu1 hu2)
      have HUP := Lib.hid hup
      have HOK := Lib.hid hok
      clear hp ho hlt hpl hcell hy hok hus2 hup hu1 hu2
      go_wp2_with (first | (refine wpList_load_at rfl 38 (.tmp 21) rfl (ad.add (p * 128)) rfl HCE.out Try.underlying38 rfl HIYv.out ?_; change wpList _ _ _ _ (Act.put _ _ (.agg (bva y))) _) | (show wpList _ _ _ ({ dst := none, op := .store 38 (.tmp 8) (.tmp 22), type := _, pos := _, after := _, guard := _ } :: _) _ _; apply Classical.byContradiction; intro hneg))
      refine hneg ?_
      clear hneg
      refine wpList_store_row rfl 38 (.tmp 8) (.tmp 22) rfl wr.heap.size (bva y) rfl rfl 38 (bva z) (heap_alloc_new _ _) HIY.out (by rw [bva_size, bva_size, HY3.out, HZ3.out]) (bva_one _) ?_
      obtain ⟨w4, hw4⟩ : ∃ w4, w4 = (wr.alloc (.cells (bva z) 38)).setRow wr.heap.size (bva y) := ⟨_, rfl⟩
      have bw : Below wr.heap.size wr w4 := by rw [hw4]; exact below_setRow ((Below.refl _ _).alloc (Nat.le_refl _) _) (Nat.le_refl _) _
      have Y8 := Lib.hid (show Blk w4 wr.heap.size (bva y) 38 by rw [hw4]; exact setRow_heap _ _ _ _ _ _ (heap_alloc_new _ _))
      have Y44 := Lib.hid (Y4.out.below bw)
      have Y54 := Lib.hid (Y5.out.below bw)
      have OB4 := Lib.hid (own_below OB.out bw)
      have OL4 := Lib.hid (own_belowN OL.out bw)
      have BR4 := Lib.hid (BR.out.trans (bw.mono BR.out.size))
      have OR4 := Lib.hid (OR.out.below bw)
      rw [← hw4]
      have hb8 : b4 + 2 ≤ wr.heap.size := by have := Y5.out.lt; omega
      obtain ⟨b8, hb8'⟩ : ∃ b, b = wr.heap.size := ⟨_, rfl⟩
      rw [← hb8'] at Y8 hb8
      rw [← hb8']
      have HB8 := Lib.hid hb8
      clear hw4 bw Y4 Y5 OB OL BR OR hb8 hb8'
      go_wp2_with fail
      refine wp_region_held_drew (S := (fun w' => Blk w' q (rwC g ci bm r) 155 ∧ Blk w' b8 (bva y) 38)) (by kernel_rfl) ⟨OR4.out.drew.blk, Y8.out⟩ (fun hh => ?_)
      have HH := Lib.hid hh
      clear hh
      refine wpAnyH_take (i := 0) (v := ?vw0) rfl (by kernel_rfl) (by kernel_rfl) (by kernel_rfl) (fun _ _ _ h => h) (Or.inl ⟨by rfl, fun w' _ => ?yw0⟩) HH.out ?_
      case yw0 => (go_simp; try with_reducible rfl)
      refine wpAnyH_take (i := 1) (v := ?vw1) rfl (by kernel_rfl) (by kernel_rfl) (by kernel_rfl) (fun _ _ _ h => h) (Or.inl ⟨by rfl, fun w' _ => ?yw1⟩) HH.out ?_
      case yw1 => (go_simp; try with_reducible rfl)
      try simp only [List.getElem_toArray, List.getElem_cons_succ, List.getElem_cons_zero, Act.put, List.setIfInBounds_toArray, List.set_cons_zero, List.set_cons_succ]
      refine wpAnyH_take (i := 2) (v := ?vw2) rfl (by kernel_rfl) (by kernel_rfl) (by kernel_rfl) (fun _ _ _ h => h) (Or.inl ⟨by rfl, fun w' _ => ?yw2⟩) HH.out ?_
      case yw2 => (go_simp; try with_reducible rfl)
      refine wpAnyH_take (i := 3) (v := ci.v) rfl (by kernel_rfl) (by kernel_rfl) (by kernel_rfl) (fun _ _ _ h => h) (Or.inl ⟨by rfl, fun w' hw' => ?lw3⟩) HH.out ?_
      case lw3 => (have hc : w'.cell? ⟨q, 1, none⟩ = some ci.v := hw'.1.cell 1; go_simp; try with_reducible rfl)
      try simp only [List.getElem_toArray, List.getElem_cons_succ, List.getElem_cons_zero, Act.put, List.setIfInBounds_toArray, List.set_cons_zero, List.set_cons_succ]
      refine wpAnyH_take (i := 4) (v := ?vw4) rfl (by kernel_rfl) (by kernel_rfl) (by kernel_rfl) (fun _ _ _ h => h) (Or.inl ⟨by rfl, fun w' _ => ?yw4⟩) HH.out ?_
      case yw4 => (go_simp; try with_reducible rfl)
      try simp only [List.getElem_toArray, List.getElem_cons_succ, List.getElem_cons_zero, Act.put, List.setIfInBounds_toArray, List.set_cons_zero, List.set_cons_succ]
      refine wpAnyH_take (i := 5) (v := .agg (bva y)) rfl (by kernel_rfl) (by kernel_rfl) (by kernel_rfl) (fun _ _ _ h => h) (Or.inl ⟨by rfl, fun w' hw' => ?yw5⟩) HH.out ?_
      case yw5 => exact exec_load 38 (.tmp 8) rfl rfl hw'.2 Try.underlying38 rfl HIY.out
      try simp only [List.getElem_toArray, List.getElem_cons_succ, List.getElem_cons_zero, Act.put, List.setIfInBounds_toArray, List.set_cons_zero, List.set_cons_succ]
      refine wpAnyH_ready (rs := [6]) (by kernel_rfl) (by simp) (AllReadyH.cons rfl (fun K hK => ?_) AllReadyH.nil)
      go_simp
      refine (HUP.out _).mono ?_
      rintro e w5 ⟨Ab, nu, cu, rfl, hown, bw0⟩
      have bw := (Below.refl w4.heap.size w4).drew.trans bw0
      have Y45 := Lib.hid (Y44.out.below bw)
      have Y55 := Lib.hid (Y54.out.below bw)
      have Y85 := Lib.hid (Y8.out.below bw)
      have OB5 := Lib.hid (own_below OB4.out bw)
      have OL5 := Lib.hid (own_belowN OL4.out bw)
      have BR5 := Lib.hid (BR4.out.trans (bw.mono BR4.out.size))
      have OR5 := Lib.hid (OR4.out.below bw)
      have OU := Lib.hid (show w5.ownsRow (b4 + 2) 5 1 (.slice Ab nu cu) nu (bv u2) from own_more hown (show b4 + 2 ≤ w4.heap.size by have := Y54.out.lt; omega))
      clear hown bw bw0
      go_simp
      refine hK.out _ _ ⟨OR5.out.blk, Y85.out⟩ (fun hh => ?_)
      have HH' := Lib.hid hh
      clear hh hK K HH Y44 Y54 Y8 OB4 OL4 BR4 OR4
      have HH := Lib.hid HH'.out
      clear HH'
      refine wpAnyH_take (i := 7) (v := ?vw7) rfl (by kernel_rfl) (by kernel_rfl) (by kernel_rfl) (fun _ _ _ h => h) (Or.inl ⟨by rfl, fun w' _ => ?yw7⟩) HH.out ?_
      case yw7 => (go_simp; try with_reducible rfl)
      try simp only [List.getElem_toArray, List.getElem_cons_succ, List.getElem_cons_zero, Act.put, List.setIfInBounds_toArray, List.set_cons_zero, List.set_cons_succ]
      refine wpAnyH_take (i := 8) (v := ?vw8) rfl (by kernel_rfl) (by kernel_rfl) (by kernel_rfl) (fun _ _ _ h => h) (Or.inl ⟨by rfl, fun w' _ => ?yw8⟩) HH.out ?_
      case yw8 => (go_simp; try with_reducible rfl)
      refine wpAnyH_take (i := 9) (v := ?vw9) rfl (by kernel_rfl) (by kernel_rfl) (by kernel_rfl) (fun _ _ _ h => h) (Or.inl ⟨by rfl, fun w' _ => ?yw9⟩) HH.out ?_
      case yw9 => (go_simp; try with_reducible rfl)
      refine wpAnyH_take (i := 10) (v := ?vw10) rfl (by kernel_rfl) (by kernel_rfl) (by kernel_rfl) (fun _ _ _ h => h) (Or.inl ⟨by rfl, fun w' _ => ?yw10⟩) HH.out ?_
      case yw10 => (go_simp; try with_reducible rfl)
      try simp only [List.getElem_toArray, List.getElem_cons_succ, List.getElem_cons_zero, Act.put, List.setIfInBounds_toArray, List.set_cons_zero, List.set_cons_succ]
      refine wpAnyH_take (i := 11) (v := ?vw11) rfl (by kernel_rfl) (by kernel_rfl) (by kernel_rfl) (fun _ _ _ h => h) (Or.inl ⟨by rfl, fun w' _ => ?yw11⟩) HH.out ?_
      case yw11 => (go_simp; try with_reducible rfl)
      refine wpAnyH_take (i := 12) (v := ?vw12) rfl (by kernel_rfl) (by kernel_rfl) (by kernel_rfl) (fun _ _ _ h => h) (Or.inl ⟨by rfl, fun w' _ => ?yw12⟩) HH.out ?_
      case yw12 => (go_simp; try with_reducible rfl)
      refine wpAnyH_take (i := 13) (v := ?vw13) rfl (by kernel_rfl) (by kernel_rfl) (by kernel_rfl) (fun _ _ _ h => h) (Or.inl ⟨by rfl, fun w' _ => ?yw13⟩) HH.out ?_
      case yw13 => (go_simp; try with_reducible rfl)
      try simp only [List.getElem_toArray, List.getElem_cons_succ, List.getElem_cons_zero, Act.put, List.setIfInBounds_toArray, List.set_cons_zero, List.set_cons_succ]
      refine wpAnyH_done (by kernel_rfl) ?_ _
      clear HH HUP
      have HCY : w5.cell? ⟨b4, 1, none⟩ = some (.int .u64 (fgO o : Int)) := Y45.out.cell 1
      have goon : ∀ (A' : Option Addr) (nb' cb' : Nat) (w' : World) (o' : Option (List UInt8)), o' = pickT ci.f k o y → Blk w' b4 (nwC k o' A' nb' cb') 113 → Blk w' (b4 + 1) (bva (fsO o')) 38 → w'.ownsRow (b4 + 2) 5 1 (.slice A' nb' cb') nb' (bv (fbO o')) → w'.ownsRow (b4 + 2) 38 128 (.slice (some ad) n cL) n (svs L) → Below w.heap.size w w' → RlO g q bm ci w' r →
          ∃ p' : Nat, p' ≤ n ∧ Value.int .i64 ((p : Int) + 1) = .int .i64 p' ∧ Value.bool o'.isSome = .bool (pickL ci.f k (L.take p')).isSome ∧ ∃ A nb cb, Hid (Blk w' b4 (nwC k (pickL ci.f k (L.take p')) A nb cb) 113) ∧ Hid (Blk w' (b4 + 1) (bva (fsO (pickL ci.f k (L.take p')))) 38) ∧
            Hid (w'.ownsRow (b4 + 2) 5 1 (.slice A nb cb) nb (bv (fbO (pickL ci.f k (L.take p'))))) ∧ Hid (w'.ownsRow (b4 + 2) 38 128 (.slice (some ad) n cL) n (svs L)) ∧ Hid (Below w.heap.size w w') ∧ Hid (RlO g q bm ci w' r) := by
        intro A' nb' cb' w' o' h0 h1 h2 h3 h4 h5 h6
        refine ⟨p + 1, HLT.out, rfl, ?_⟩
        rw [HT.out, ← h0]
        exact ⟨rfl, A', nb', cb', Lib.hid h1, Lib.hid h2, Lib.hid h3, Lib.hid h4, Lib.hid h5, Lib.hid h6⟩
      have GO := Lib.hid goon
      clear goon
      cases ok with
      | false =>
        have hp0 : o = pickT ci.f k o y := by rw [pickT, ← HOK.out]; rfl
        have HP0 := Lib.hid hp0
        clear hp0
        go_wp2_with fail
        go_round
        case rel => exact (GO.out _ _ _ _ _ HP0.out Y45.out Y55.out OB5.out OL5.out BR5.out OR5.out)
        case measure => have := HLT.out; simp [intOf]; omega
      | true =>
        have e0 := HUS2.out
        rw [if_pos rfl] at e0
        have e1 : u1 = genS y := by rw [HUE.out.1, e0]
        have e2 : u2 = bodyS y := by rw [HUE.out.2, e0]
        have E12 := Lib.hid (And.intro e1 e2)
        clear e0 e1 e2
        have taken : gtO o y = true → some y = pickT ci.f k o y := fun h => by rw [pickT, ← HOK.out, h]; rfl
        have TK := Lib.hid taken
        clear taken
        by_cases hgt : gtO o y = true
        · have HG := Lib.hid (TK.out hgt)
          have hcond : o.isSome = false ∨ (o.isSome = true ∧ decide ((u1 : Int) > (fgO o : Int)) = true ∧ fgO o < u1) := by
            cases o with
            | none => exact .inl rfl
            | some x =>
              have h1 : genS x < genS y := of_decide_eq_true hgt
              have h2 : (fgO (some x) : Int) < (u1 : Int) := by rw [E12.out.1]; show ((genS x : Nat) : Int) < _; omega
              exact .inr ⟨rfl, decide_eq_true h2, by omega⟩
          obtain ⟨os, hos⟩ : ∃ b, b = o.isSome := ⟨_, rfl⟩
          obtain ⟨fg, hfg⟩ : ∃ b : Nat, b = fgO o := ⟨_, rfl⟩
          rw [← hos, ← hfg] at hcond
          rw [← hfg] at HCY
          rw [← hos]
          clear hgt hos hfg
          have HBLD := Lib.hid (show ∀ W, (Instr.build 113 #[(0, .int .i64 k), (1, .int .u64 (u1 : Int)), (2, .slice Ab nu cu)]).run Try.prog W = .ok (.agg (nwC k (some y) Ab nu cu)) W by
            intro W
            rw [show nwC k (some y) Ab nu cu = #[.int .i64 k, .int .u64 (u1 : Int), .slice Ab nu cu] by rw [E12.out.1]; rfl]
            kernel_rfl)
          rcases hcond with hc | ⟨hc, hd1, hd2⟩
          · subst hc
            go_wp2_with fail
            refine wp_region_held_drew (S := (fun w' => Blk w' b8 (bva y) 38)) (by kernel_rfl) Y85.out (fun hh => ?_)
            have HH := Lib.hid hh
            clear hh
            refine wpAnyH_take (i := 0) (v := ?vu0) rfl (by kernel_rfl) (by kernel_rfl) (by kernel_rfl) (fun _ _ _ h => h) (Or.inl ⟨by rfl, fun w' _ => ?yu0⟩) HH.out ?_
            case yu0 => (go_simp; try with_reducible rfl)
            refine wpAnyH_take (i := 1) (v := ?vu1) rfl (by kernel_rfl) (by kernel_rfl) (by kernel_rfl) (fun _ _ _ h => h) (Or.inl ⟨by rfl, fun w' _ => ?yu1⟩) HH.out ?_
            case yu1 => (go_simp; try with_reducible rfl)
            try simp only [List.getElem_toArray, List.getElem_cons_succ, List.getElem_cons_zero, Act.put, List.setIfInBounds_toArray, List.set_cons_zero, List.set_cons_succ]
            refine wpAnyH_take (i := 2) (v := ?vu2) rfl (by kernel_rfl) (by kernel_rfl) (by kernel_rfl) (fun _ _ _ h => h) (Or.inl ⟨by rfl, fun w' _ => ?yu2⟩) HH.out ?_
            case yu2 => (go_simp; try with_reducible rfl)
            refine wpAnyH_take (i := 3) (v := .agg (nwC k (some y) Ab nu cu)) rfl (by kernel_rfl) (by kernel_rfl) (by kernel_rfl) (fun _ _ _ h => h) (Or.inl ⟨by rfl, fun w' hw' => ?lb3⟩) HH.out ?_
            case lb3 => exact exec_build 113 #[(0, .tmp 45), (1, .tmp 46), (2, .tmp 47)] rfl (by simp only [List.map_toArray, List.map_cons, List.map_nil]; exact HBLD.out _)
            try simp only [List.getElem_toArray, List.getElem_cons_succ, List.getElem_cons_zero, Act.put, List.setIfInBounds_toArray, List.set_cons_zero, List.set_cons_succ]
            refine wpAnyH_take (i := 4) (v := .agg (bva y)) rfl (by kernel_rfl) (by kernel_rfl) (by kernel_rfl) (fun _ _ _ h => h) (Or.inl ⟨by rfl, fun w' hw' => ?yu4⟩) HH.out ?_
            case yu4 => exact exec_load 38 (.tmp 8) rfl rfl hw' Try.underlying38 rfl HIY.out
            try simp only [List.getElem_toArray, List.getElem_cons_succ, List.getElem_cons_zero, Act.put, List.setIfInBounds_toArray, List.set_cons_zero, List.set_cons_succ]
            refine wpAnyH_ready (rs := [5]) (by kernel_rfl) (by simp) (AllReadyH.cons rfl (fun K hK => ?_) AllReadyH.nil)
            rw [if_pos (by rfl)]
            refine wp_store_row 113 (.tmp 4) (.tmp 48) rfl b4 (nwC k (some y) Ab nu cu) rfl rfl 113 (nwC k o A nb cb) Y45.out (by rfl) (by rfl) (by simp [nwC, Value.oneCell']) ?_
            obtain ⟨w6, hw6⟩ : ∃ W, W = (World.drew w5).setRow b4 (nwC k (some y) Ab nu cu) := ⟨_, rfl⟩
            have b6 : But (fun k => k = b4) w5 w6 := by rw [hw6]; exact But.setRow (S := fun k => k = b4) (but_below (Below.refl _ _).drew) (Or.inl rfl) _
            have Y46 := Lib.hid (show Blk w6 b4 (nwC k (some y) Ab nu cu) 113 by rw [hw6]; exact setRow_heap _ _ _ _ _ _ Y45.out)
            have Y56 := Lib.hid (Y55.out.but b6 (by omega))
            have Y86 := Lib.hid (Y85.out.but b6 (by have := HB8.out; omega))
            have OU6 := Lib.hid (Own.but OU.out b6 (fun j hj e => by have := (OU.out.lt j hj).1; omega))
            have OL6 := Lib.hid (Own.but OL5.out b6 (fun j hj e => by have := (OL5.out.lt j hj).1; omega))
            have OR6 := Lib.hid (OR5.out.but b6 (fun e => HQ.out.1 (by rw [e, HB4.out]; exact Nat.le_refl _)) (fun e => HQ.out.2 (by rw [e, HB4.out]; exact Nat.le_refl _)))
            have BR6 := Lib.hid (BR5.out.trans (b6.below (B := w.heap.size) (fun j hj e => by have := HB4.out; omega) BR5.out.size))
            rw [← hw6]
            clear hw6 b6
            refine hK.out _ _ Y86.out (fun hh => ?_)
            have HH' := Lib.hid hh
            clear hh hK K HH
            have HH := Lib.hid HH'.out
            clear HH'
            try simp only [List.getElem_toArray, List.getElem_cons_succ, List.getElem_cons_zero, Act.put]
            refine wpAnyH_ready (rs := [6]) (by kernel_rfl) (by simp) (AllReadyH.cons rfl (fun K hK => ?_) AllReadyH.nil)
            rw [if_pos (by rfl)]
            refine wp_store_row 38 (.tmp 5) (.tmp 49) rfl (b4 + 1) (bva y) rfl rfl 38 (bva (fsO o)) Y56.out HIY.out (by rw [bva_size, bva_size, HY3.out, HFS.out]) (bva_one _) ?_
            obtain ⟨w7, hw7⟩ : ∃ W, W = w6.setRow (b4 + 1) (bva y) := ⟨_, rfl⟩
            have b7 : But (fun k => k = b4 + 1) w6 w7 := by rw [hw7]; exact But.setRow (S := fun k => k = b4 + 1) (But.refl _) (Or.inl rfl) _
            have Y47 := Lib.hid (Y46.out.but b7 (by omega))
            have Y57 := Lib.hid (show Blk w7 (b4 + 1) (bva (fsO (some y))) 38 by rw [hw7]; exact setRow_heap _ _ _ _ _ _ Y56.out)
            have Y87 := Lib.hid (Y86.out.but b7 (by have := HB8.out; omega))
            have OU7 := Lib.hid (Own.but OU6.out b7 (fun j hj e => by have := (OU6.out.lt j hj).1; omega))
            have OL7 := Lib.hid (Own.but OL6.out b7 (fun j hj e => by have := (OL6.out.lt j hj).1; omega))
            have OR7 := Lib.hid (OR6.out.but b7 (fun e => HQ.out.1 (by rw [e, HB4.out]; exact Nat.le_succ _)) (fun e => HQ.out.2 (by rw [e, HB4.out]; exact Nat.le_succ _)))
            have BR7 := Lib.hid (BR6.out.trans (b7.below (B := w.heap.size) (fun j hj e => by have := HB4.out; omega) BR6.out.size))
            rw [← hw7]
            clear hw7 b7
            refine hK.out _ _ Y87.out (fun hh => ?_)
            have HH' := Lib.hid hh
            clear hh hK K HH
            have HH := Lib.hid HH'.out
            clear HH'
            try simp only [List.getElem_toArray, List.getElem_cons_succ, List.getElem_cons_zero, Act.put]
            refine wpAnyH_take (i := 7) (v := ?vu7) rfl (by kernel_rfl) (by kernel_rfl) (by kernel_rfl) (fun _ _ _ h => h) (Or.inl ⟨by rfl, fun w' _ => ?yu7⟩) HH.out ?_
            case yu7 => (go_simp; try with_reducible rfl)
            try simp only [List.getElem_toArray, List.getElem_cons_succ, List.getElem_cons_zero, Act.put, List.setIfInBounds_toArray, List.set_cons_zero, List.set_cons_succ]
            refine wpAnyH_done (by kernel_rfl) ?_ _
            go_wp2_with fail
            go_round
            case rel => exact (GO.out _ _ _ _ _ HG.out Y47.out Y57.out (by rw [show fbO (some y) = u2 from E12.out.2.symm]; exact OU7.out) OL7.out BR7.out OR7.out)
            case measure => have := HLT.out; simp [intOf]; omega
          · subst hc
            go_wp2_with fail
            refine wp_region_held_drew (S := (fun w' => Blk w' b8 (bva y) 38)) (by kernel_rfl) Y85.out (fun hh => ?_)
            have HH := Lib.hid hh
            clear hh
            refine wpAnyH_take (i := 0) (v := ?vu0) rfl (by kernel_rfl) (by kernel_rfl) (by kernel_rfl) (fun _ _ _ h => h) (Or.inl ⟨by rfl, fun w' _ => ?yu0⟩) HH.out ?_
            case yu0 => (go_simp; try with_reducible rfl)
            refine wpAnyH_take (i := 1) (v := ?vu1) rfl (by kernel_rfl) (by kernel_rfl) (by kernel_rfl) (fun _ _ _ h => h) (Or.inl ⟨by rfl, fun w' _ => ?yu1⟩) HH.out ?_
            case yu1 => (go_simp; try with_reducible rfl)
            try simp only [List.getElem_toArray, List.getElem_cons_succ, List.getElem_cons_zero, Act.put, List.setIfInBounds_toArray, List.set_cons_zero, List.set_cons_succ]
            refine wpAnyH_take (i := 2) (v := ?vu2) rfl (by kernel_rfl) (by kernel_rfl) (by kernel_rfl) (fun _ _ _ h => h) (Or.inl ⟨by rfl, fun w' _ => ?yu2⟩) HH.out ?_
            case yu2 => (go_simp; try with_reducible rfl)
            refine wpAnyH_take (i := 3) (v := .agg (nwC k (some y) Ab nu cu)) rfl (by kernel_rfl) (by kernel_rfl) (by kernel_rfl) (fun _ _ _ h => h) (Or.inl ⟨by rfl, fun w' hw' => ?lb3⟩) HH.out ?_
            case lb3 => exact exec_build 113 #[(0, .tmp 45), (1, .tmp 46), (2, .tmp 47)] rfl (by simp only [List.map_toArray, List.map_cons, List.map_nil]; exact HBLD.out _)
            try simp only [List.getElem_toArray, List.getElem_cons_succ, List.getElem_cons_zero, Act.put, List.setIfInBounds_toArray, List.set_cons_zero, List.set_cons_succ]
            refine wpAnyH_take (i := 4) (v := .agg (bva y)) rfl (by kernel_rfl) (by kernel_rfl) (by kernel_rfl) (fun _ _ _ h => h) (Or.inl ⟨by rfl, fun w' hw' => ?yu4⟩) HH.out ?_
            case yu4 => exact exec_load 38 (.tmp 8) rfl rfl hw' Try.underlying38 rfl HIY.out
            try simp only [List.getElem_toArray, List.getElem_cons_succ, List.getElem_cons_zero, Act.put, List.setIfInBounds_toArray, List.set_cons_zero, List.set_cons_succ]
            refine wpAnyH_ready (rs := [5]) (by kernel_rfl) (by simp) (AllReadyH.cons rfl (fun K hK => ?_) AllReadyH.nil)
            rw [if_pos (by rfl)]
            refine wp_store_row 113 (.tmp 4) (.tmp 48) rfl b4 (nwC k (some y) Ab nu cu) rfl rfl 113 (nwC k o A nb cb) Y45.out (by rfl) (by rfl) (by simp [nwC, Value.oneCell']) ?_
            obtain ⟨w6, hw6⟩ : ∃ W, W = (World.drew w5).setRow b4 (nwC k (some y) Ab nu cu) := ⟨_, rfl⟩
            have b6 : But (fun k => k = b4) w5 w6 := by rw [hw6]; exact But.setRow (S := fun k => k = b4) (but_below (Below.refl _ _).drew) (Or.inl rfl) _
            have Y46 := Lib.hid (show Blk w6 b4 (nwC k (some y) Ab nu cu) 113 by rw [hw6]; exact setRow_heap _ _ _ _ _ _ Y45.out)
            have Y56 := Lib.hid (Y55.out.but b6 (by omega))
            have Y86 := Lib.hid (Y85.out.but b6 (by have := HB8.out; omega))
            have OU6 := Lib.hid (Own.but OU.out b6 (fun j hj e => by have := (OU.out.lt j hj).1; omega))
            have OL6 := Lib.hid (Own.but OL5.out b6 (fun j hj e => by have := (OL5.out.lt j hj).1; omega))
            have OR6 := Lib.hid (OR5.out.but b6 (fun e => HQ.out.1 (by rw [e, HB4.out]; exact Nat.le_refl _)) (fun e => HQ.out.2 (by rw [e, HB4.out]; exact Nat.le_refl _)))
            have BR6 := Lib.hid (BR5.out.trans (b6.below (B := w.heap.size) (fun j hj e => by have := HB4.out; omega) BR5.out.size))
            rw [← hw6]
            clear hw6 b6
            refine hK.out _ _ Y86.out (fun hh => ?_)
            have HH' := Lib.hid hh
            clear hh hK K HH
            have HH := Lib.hid HH'.out
            clear HH'
            try simp only [List.getElem_toArray, List.getElem_cons_succ, List.getElem_cons_zero, Act.put]
            refine wpAnyH_ready (rs := [6]) (by kernel_rfl) (by simp) (AllReadyH.cons rfl (fun K hK => ?_) AllReadyH.nil)
            rw [if_pos (by rfl)]
            refine wp_store_row 38 (.tmp 5) (.tmp 49) rfl (b4 + 1) (bva y) rfl rfl 38 (bva (fsO o)) Y56.out HIY.out (by rw [bva_size, bva_size, HY3.out, HFS.out]) (bva_one _) ?_
            obtain ⟨w7, hw7⟩ : ∃ W, W = w6.setRow (b4 + 1) (bva y) := ⟨_, rfl⟩
            have b7 : But (fun k => k = b4 + 1) w6 w7 := by rw [hw7]; exact But.setRow (S := fun k => k = b4 + 1) (But.refl _) (Or.inl rfl) _
            have Y47 := Lib.hid (Y46.out.but b7 (by omega))
            have Y57 := Lib.hid (show Blk w7 (b4 + 1) (bva (fsO (some y))) 38 by rw [hw7]; exact setRow_heap _ _ _ _ _ _ Y56.out)
            have Y87 := Lib.hid (Y86.out.but b7 (by have := HB8.out; omega))
            have OU7 := Lib.hid (Own.but OU6.out b7 (fun j hj e => by have := (OU6.out.lt j hj).1; omega))
            have OL7 := Lib.hid (Own.but OL6.out b7 (fun j hj e => by have := (OL6.out.lt j hj).1; omega))
            have OR7 := Lib.hid (OR6.out.but b7 (fun e => HQ.out.1 (by rw [e, HB4.out]; exact Nat.le_succ _)) (fun e => HQ.out.2 (by rw [e, HB4.out]; exact Nat.le_succ _)))
            have BR7 := Lib.hid (BR6.out.trans (b7.below (B := w.heap.size) (fun j hj e => by have := HB4.out; omega) BR6.out.size))
            rw [← hw7]
            clear hw7 b7
            refine hK.out _ _ Y87.out (fun hh => ?_)
            have HH' := Lib.hid hh
            clear hh hK K HH
            have HH := Lib.hid HH'.out
            clear HH'
            try simp only [List.getElem_toArray, List.getElem_cons_succ, List.getElem_cons_zero, Act.put]
            refine wpAnyH_take (i := 7) (v := ?vu7) rfl (by kernel_rfl) (by kernel_rfl) (by kernel_rfl) (fun _ _ _ h => h) (Or.inl ⟨by rfl, fun w' _ => ?yu7⟩) HH.out ?_
            case yu7 => (go_simp; try with_reducible rfl)
            try simp only [List.getElem_toArray, List.getElem_cons_succ, List.getElem_cons_zero, Act.put, List.setIfInBounds_toArray, List.set_cons_zero, List.set_cons_succ]
            refine wpAnyH_done (by kernel_rfl) ?_ _
            go_wp2_with fail
            go_round
            case rel => exact (GO.out _ _ _ _ _ HG.out Y47.out Y57.out (by rw [show fbO (some y) = u2 from E12.out.2.symm]; exact OU7.out) OL7.out BR7.out OR7.out)
            case measure => have := HLT.out; simp [intOf]; omega
        · have hf : gtO o y = false := by cases h : gtO o y; rfl; exact absurd h hgt
          cases o with
          | none => cases hf
          | some x =>
            have h1 : ¬ genS x < genS y := of_decide_eq_false hf
            have HG := Lib.hid (show some x = pickT ci.f k (some x) y by rw [pickT, hf, Bool.and_false]; rfl)
            have h2 : ¬ ((fgO (some x) : Int) < (u1 : Int)) := by rw [E12.out.1]; show ¬ (((genS x : Nat) : Int) < _); omega
            have d1 : decide ((u1 : Int) > (fgO (some x) : Int)) = false := decide_eq_false h2
            have d2 : ¬ fgO (some x) < u1 := by omega
            obtain ⟨fg, hfg⟩ : ∃ b : Nat, b = fgO (some x) := ⟨_, rfl⟩
            rw [← hfg] at d1 d2 HCY
            have HSM : (some x : Option (List UInt8)).isSome = true := rfl
            rw [HSM]
            clear h1 h2 hf hgt HSM hfg
            go_wp2_with fail
            go_round
            case rel => exact (GO.out _ _ _ _ _ HG.out Y45.out Y55.out OB5.out OL5.out BR5.out OR5.out)
            case measure => have := HLT.out; simp [intOf]; omega
    · obtain rfl : n = p := by omega
      have ho2 : pickL ci.f k L = o := by rw [ho, List.take_of_length_le (by rw [HN.out.1]; exact Nat.le_refl _)]
      have HO2 := Lib.hid ho2
      have HIF := Lib.hid (HIS.out (fsO o) HFS.out)
      have HB4Y := Lib.hid Y4.out
      clear hp ho hlt ho2
      go_wp2_with fail
      refine wp_region_held_drew (S := (fun w' => Blk w' b4 (nwC k o A nb cb) 113 ∧ Blk w' (b4 + 1) (bva (fsO o)) 38)) (by kernel_rfl) ⟨Y4.out, Y5.out⟩ (fun hh => ?_)
      have HH := Lib.hid hh
      clear hh
      refine wpAnyH_take (i := 0) (v := .agg (nwC k o A nb cb)) rfl (by kernel_rfl) (by kernel_rfl) (by kernel_rfl) (fun _ _ _ h => h) (Or.inl ⟨by rfl, fun w' hw' => ?yz0⟩) HH.out ?_
      case yz0 => exact exec_load 113 (.tmp 4) rfl rfl hw'.1 Try.underlying113 rfl rfl
      refine wpAnyH_take (i := 1) (v := .agg (bva (fsO o))) rfl (by kernel_rfl) (by kernel_rfl) (by kernel_rfl) (fun _ _ _ h => h) (Or.inl ⟨by rfl, fun w' hw' => ?yz1⟩) HH.out ?_
      case yz1 => exact exec_load 38 (.tmp 5) rfl rfl hw'.2 Try.underlying38 rfl HIF.out
      try simp only [List.getElem_toArray, List.getElem_cons_succ, List.getElem_cons_zero, Act.put, List.setIfInBounds_toArray, List.set_cons_zero, List.set_cons_succ]
      refine wpAnyH_take (i := 2) (v := ?vz2) rfl (by kernel_rfl) (by kernel_rfl) (by kernel_rfl) (fun _ _ _ h => h) (Or.inl ⟨by rfl, fun w' _ => ?yz2⟩) HH.out ?_
      case yz2 => (go_simp; try with_reducible rfl)
      try simp only [List.getElem_toArray, List.getElem_cons_succ, List.getElem_cons_zero, Act.put, List.setIfInBounds_toArray, List.set_cons_zero, List.set_cons_succ]
      refine wpAnyH_ready (rs := [3]) (by kernel_rfl) (by simp) (AllReadyH.cons rfl (fun K hK => ?_) AllReadyH.nil)
      rw [if_pos (by rfl)]
      refine wp_store_row 113 (.tmp 4) (.tmp 51) rfl b4 (nwC k o A nb cb) rfl rfl 113 (nwC k o A nb cb) Y4.out (by rfl) (by rfl) (by simp [nwC, Value.oneCell']) ?_
      obtain ⟨w6, hw6⟩ : ∃ W, W = (World.drew wr).setRow b4 (nwC k o A nb cb) := ⟨_, rfl⟩
      have b6 : But (fun k => k = b4) wr w6 := by rw [hw6]; exact But.setRow (S := fun k => k = b4) (but_below (Below.refl _ _).drew) (Or.inl rfl) _
      have Y46 := Lib.hid (show Blk w6 b4 (nwC k o A nb cb) 113 by rw [hw6]; exact setRow_heap _ _ _ _ _ _ Y4.out)
      have Y56 := Lib.hid (Y5.out.but b6 (by omega))
      have OB6 := Lib.hid (Own.but OB.out b6 (fun j hj e => by have := (OB.out.lt j hj).1; omega))
      have BR6 := Lib.hid (BR.out.trans (b6.below (B := w.heap.size) (fun j hj e => by have := HB4.out; omega) BR.out.size))
      rw [← hw6]
      clear hw6 b6
      refine hK.out _ _ ⟨Y46.out, Y56.out⟩ (fun hh => ?_)
      have HH' := Lib.hid hh
      clear hh hK K HH
      have HH := Lib.hid HH'.out
      clear HH'
      try simp only [List.getElem_toArray, List.getElem_cons_succ, List.getElem_cons_zero, Act.put]
      refine wpAnyH_ready (rs := [4]) (by kernel_rfl) (by simp) (AllReadyH.cons rfl (fun K hK => ?_) AllReadyH.nil)
      rw [if_pos (by rfl)]
      refine wp_store_row 38 (.tmp 5) (.tmp 52) rfl (b4 + 1) (bva (fsO o)) rfl rfl 38 (bva (fsO o)) Y56.out HIF.out (by rfl) (bva_one _) ?_
      obtain ⟨w7, hw7⟩ : ∃ W, W = w6.setRow (b4 + 1) (bva (fsO o)) := ⟨_, rfl⟩
      have b7 : But (fun k => k = b4 + 1) w6 w7 := by rw [hw7]; exact But.setRow (S := fun k => k = b4 + 1) (But.refl _) (Or.inl rfl) _
      have Y47 := Lib.hid (Y46.out.but b7 (by omega))
      have Y57 := Lib.hid (show Blk w7 (b4 + 1) (bva (fsO o)) 38 by rw [hw7]; exact setRow_heap _ _ _ _ _ _ Y56.out)
      have OB7 := Lib.hid (Own.but OB6.out b7 (fun j hj e => by have := (OB6.out.lt j hj).1; omega))
      have BR7 := Lib.hid (BR6.out.trans (b7.below (B := w.heap.size) (fun j hj e => by have := HB4.out; omega) BR6.out.size))
      rw [← hw7]
      clear hw7 b7
      refine hK.out _ _ ⟨Y47.out, Y57.out⟩ (fun hh => ?_)
      have HH' := Lib.hid hh
      clear hh hK K HH
      have HH := Lib.hid HH'.out
      clear HH'
      try simp only [List.getElem_toArray, List.getElem_cons_succ, List.getElem_cons_zero, Act.put]
      refine wpAnyH_take (i := 5) (v := ?vz5) rfl (by kernel_rfl) (by kernel_rfl) (by kernel_rfl) (fun _ _ _ h => h) (Or.inl ⟨by rfl, fun w' _ => ?yz5⟩) HH.out ?_
      case yz5 => (go_simp; try with_reducible rfl)
      try simp only [List.getElem_toArray, List.getElem_cons_succ, List.getElem_cons_zero, Act.put, List.setIfInBounds_toArray, List.set_cons_zero, List.set_cons_succ]
      refine wpAnyH_done (by kernel_rfl) ?_ _
      go_wp2_with fail
      refine bodyPost_ret (results_ccs Try.results115 _ _ b4 (b4 + 1) (nwC k o A nb cb) (bva (fsO o)) rfl rfl Y47.out Y57.out Try.underlying113 rfl (by rfl) Try.underlying38 rfl HIF.out) rfl ⟨A, nb, cb, (by rw [HO2.out]; rfl), ?_, BR7.out⟩
      rw [HO2.out]; exact own_more OB7.out (by have := HB4.out; omega)
end
end Go.Proofs.Ythadomboiockhaa.Lo
/-
  The contract of the mirror's Choose.
-/
namespace Go.Proofs.Ythadomboiockhaa.Mi
open Go.RowKit Kd
attribute [local go_sem ↓] Go.wp_at_zero Go.wp_at_succ
section
variable {C : Duo} {G : Gd} {g : Nat} {w w1 : World} {s : Mr C} {F1 F : Nat → Prop}
theorem choose1_enter (args : Array Value) (W : World) : (callFunc 127 args).run Try.prog W = .ok (.enter 127 args) W := by kernel_rfl
/-- What is asked of one device by Choose: does it read x, or is x written to it? -/
def Mr.c1 (s : Mr C) (n : Int) (x : List UInt8) (i : Nat) : Bool × Mr C :=
  if (C.rd s.d i n).1 = 0 then (if (C.rd s.d i n).2 = x then (true, s) else ((C.wr s.d i n x).1 == 0, s.dev (C.wr s.d i n x).2)) else (false, s)
theorem ml_read (h : (ML C G g).At w s F) {i : Nat} (hi : i < 2) (n : Int) : Calls Try.prog 27 #[.pointer (C.ptr i), .int .i64 n] w (RetB (.tuple #[.agg (bva (C.rd s.d i n).2), .int .i64 (C.rd s.d i n).1]) w) := by
  obtain ⟨F1, hd, _⟩ := ml_dev h
  exact C.crd hd hi n
theorem ml_rdlen (h : (ML C G g).At w s F) {i : Nat} (hi : i < 2) (n : Int) : (C.rd s.d i n).2.length = 128 := by
  obtain ⟨F1, hd, _⟩ := ml_dev h
  exact C.rd_len hd hi
theorem arg_cells {b : Nat} {n : Int} {x : List UInt8} {i : Nat} (hi : i < 2) (h : ((ML C G g).and (argB g n x b)).At w s F) : w.cell? ⟨g, i, none⟩ = some (.pointer (C.ptr i)) ∧ w.cell? ⟨b, 0, none⟩ = some (.pointer (some ⟨g, 0, none⟩)) ∧ w.cell? ⟨b + 1, 0, none⟩ = some (.int .i64 n) ∧ Blk w (b + 1 + 1) (bva x) 38 := by
  obtain ⟨F0, h0, _, h2, _⟩ := and_lift h
  exact ⟨(ml_ptr h0 hi).1, (h2 _ (by unfold argB; exact List.mem_cons_self)).cell 0, (h2 _ (by unfold argB; exact List.mem_cons_of_mem _ List.mem_cons_self)).cell 0, h2 _ (by unfold argB; exact List.mem_cons_of_mem _ (List.mem_cons_of_mem _ List.mem_cons_self))⟩
set_option maxRecDepth 100000 in
set_option maxHeartbeats 6400000 in
theorem choose1_any {b : Nat} {n : Int} {x : List UInt8} (h : ((ML C G g).and (argB g n x b)).At w s F) {i : Nat} (hi : i < 2) (hx : x.length = 128) (hm : C.most s.d < 1000000) :
    Calls Try.prog 127 #[.int .i64 i, .pointer (some ⟨b, 0, none⟩), .pointer (some ⟨b + 1, 0, none⟩), .pointer (some ⟨b + 1 + 1, 0, none⟩)] w (RetA ((ML C G g).and (argB g n x b)) (.bool (s.c1 n x i).1) (s.c1 n x i).2 F w) := by
  have HI := Lib.hid hi
  have HX3 := Lib.hid hx
  have HIX : Hid ((Try.prog.info? 38).map (·.size) = some (bva x).size) := by rw [bva_size, hx]; exact info_sec
  have i0 : (0 : Int) ≤ (i : Int) := by omega
  have i1 : (i : Int) < 2 := by omega
  obtain ⟨z, hz0⟩ : ∃ z : List UInt8, z = zeroS := ⟨_, rfl⟩
  have hz : ∀ W, (zeroValue 38).run Try.prog W = .ok (.agg (bva z)) W := fun _ => by rw [hz0]; kernel_rfl
  have HZ3 := Lib.hid (show z.length = 128 by rw [hz0]; exact zeroS_length)
  have HP := Lib.hid (show ∀ w' s' F', ((ML C G g).and (argB g n x b)).At w' s' F' → _ from fun w' s' F' h => arg_cells (C := C) hi h)
  have H := Lib.hid h
  have HRD := Lib.hid (show ∀ w', Below w.heap.size w w' → Calls Try.prog 27 #[.pointer (C.ptr i), .int .i64 n] w' (RetB (.tuple #[.agg (bva (C.rd s.d i n).2), .int .i64 (C.rd s.d i n).1]) w') from fun w' hb => by
    obtain ⟨F0, h0, _⟩ := and_lift (((ML C G g).and (argB g n x b)).below h hb)
    exact ml_read h0 hi n)
  have HY3 := Lib.hid (show (C.rd s.d i n).2.length = 128 by
    obtain ⟨F0, h0, _⟩ := and_lift h
    exact ml_rdlen h0 hi n)
  obtain ⟨P, hP⟩ : ∃ P, P = C.ptr i := ⟨_, rfl⟩
  rw [← hP] at HP HRD
  have HPE := Lib.hid hP
  obtain ⟨r, hr⟩ : ∃ r, r = (C.rd s.d i n).1 := ⟨_, rfl⟩
  obtain ⟨y, hy⟩ : ∃ y, y = (C.rd s.d i n).2 := ⟨_, rfl⟩
  rw [← hr, ← hy] at HRD
  rw [← hy] at HY3
  obtain ⟨RV, hRV⟩ : ∃ RV, RV = s.c1 n x i := ⟨_, rfl⟩
  have HRV := Lib.hid (show RV = if r = 0 then (if y = x then (true, s) else ((C.wr s.d i n x).1 == 0, s.dev (C.wr s.d i n x).2)) else (false, s) by rw [hRV, Mr.c1, hr, hy])
  rw [← hRV]
  have HIY : Hid ((Try.prog.info? 38).map (·.size) = some (bva y).size) := by rw [bva_size, HY3.out]; exact info_sec
  have HMM := Lib.hid hm
  clear hRV hr hy hP hz0 h hi hx hm
  go_enter Try.func127, Try.ntmps127
  go_upto_region 1 with fail
  go_cut [6, 7] (fun a6 a7 wx => ∃ (q : Nat) (F' : Nat → Prop), a6 = .pointer (some ⟨q, 0, none⟩) ∧ a7 = .int .i64 r ∧ Mv ((ML C G g).and (argB g n x b)) w F wx s F' ∧ Bx w wx F' q (bva y) 38)
  case first =>
    go_wp2_with fail
    refine wp_region_held_drew (S := fun w' => w'.cell? ⟨g, i, none⟩ = some (.pointer P) ∧ w'.cell? ⟨b, 0, none⟩ = some (.pointer (some ⟨g, 0, none⟩)) ∧ w'.cell? ⟨b + 1, 0, none⟩ = some (.int .i64 n) ∧ Blk w' (b + 1 + 1) (bva x) 38) (by kernel_rfl) (HP.out _ _ _ (((ML C G g).and (argB g n x b)).below H.out (Below.refl _ _).drew)) (fun hh => ?_)
    have HH := Lib.hid hh
    clear hh
    refine wpAnyH_take (i := 0) (v := .pointer (some ⟨g, 0, none⟩)) rfl (by kernel_rfl) (by kernel_rfl) (by kernel_rfl) (fun _ _ _ h => h) (Or.inl ⟨by rfl, fun w' hw' => ?yD0⟩) HH.out ?_
    case yD0 => (have hc := hw'.2.1; go_simp; try with_reducible rfl)
    refine wpAnyH_take (i := 1) (v := ?vD1) rfl (by kernel_rfl) (by kernel_rfl) (by kernel_rfl) (fun _ _ _ h => h) (Or.inl ⟨by rfl, fun w' _ => ?yD1⟩) HH.out ?_
    case yD1 => (go_simp; try with_reducible rfl)
    try simp only [List.getElem_toArray, List.getElem_cons_succ, List.getElem_cons_zero, Act.put, List.setIfInBounds_toArray, List.set_cons_zero, List.set_cons_succ]
    refine wpAnyH_take (i := 2) (v := ?vD2) rfl (by kernel_rfl) (by kernel_rfl) (by kernel_rfl) (fun _ _ _ h => h) (Or.inl ⟨by rfl, fun w' _ => ?yD2⟩) HH.out ?_
    case yD2 => (go_simp; try with_reducible rfl)
    refine wpAnyH_take (i := 3) (v := ?vD3) rfl (by kernel_rfl) (by kernel_rfl) (by kernel_rfl) (fun _ _ _ h => h) (Or.inl ⟨by rfl, fun w' _ => ?yD3⟩) HH.out ?_
    case yD3 => (go_simp; try with_reducible rfl)
    refine wpAnyH_take (i := 4) (v := ?vD4) rfl (by kernel_rfl) (by kernel_rfl) (by kernel_rfl) (fun _ _ _ h => h) (Or.inl ⟨by rfl, fun w' _ => ?yD4⟩) HH.out ?_
    case yD4 => (go_simp; try with_reducible rfl)
    try simp only [List.getElem_toArray, List.getElem_cons_succ, List.getElem_cons_zero, Act.put, List.setIfInBounds_toArray, List.set_cons_zero, List.set_cons_succ]
    refine wpAnyH_take (i := 5) (v := .pointer P) rfl (by kernel_rfl) (by kernel_rfl) (by kernel_rfl) (fun _ _ _ h => h) (Or.inl ⟨by rfl, fun w' hw' => ?yD5⟩) HH.out ?_
    case yD5 => (have hc := hw'.1; go_simp; try with_reducible rfl)
    refine wpAnyH_take (i := 6) (v := .int .i64 n) rfl (by kernel_rfl) (by kernel_rfl) (by kernel_rfl) (fun _ _ _ h => h) (Or.inl ⟨by rfl, fun w' hw' => ?yD6⟩) HH.out ?_
    case yD6 => (have hc := hw'.2.2.1; go_simp; try with_reducible rfl)
    try simp only [List.getElem_toArray, List.getElem_cons_succ, List.getElem_cons_zero, Act.put, List.setIfInBounds_toArray, List.set_cons_zero, List.set_cons_succ]
    refine wpAnyH_ready (rs := [7, 11]) (by kernel_rfl) (by simp) (AllReadyH.cons rfl (fun K hK => ?_) (AllReadyH.cons rfl (fun K hK => ?_) AllReadyH.nil))
    · go_simp
      refine (HRD.out _ ((Below.refl w.heap.size w).drew)).mono ?_
      rintro e w2 ⟨rfl, bw⟩
      have B2 := Lib.hid (((Below.refl w.heap.size w).drew).trans (bw.mono ((Below.refl w.heap.size w).drew).size))
      clear bw
      go_simp
      refine hK.out _ _ (HP.out _ _ _ (((ML C G g).and (argB g n x b)).below H.out B2.out)) (fun hh => ?_)
      have HH' := Lib.hid hh
      clear hh hK K HH
      have HH := Lib.hid HH'.out
      clear HH'
      refine wpAnyH_take (i := 8) (v := ?vA8) rfl (by kernel_rfl) (by kernel_rfl) (by kernel_rfl) (fun _ _ _ h => h) (Or.inl ⟨by rfl, fun w' _ => ?yA8⟩) HH.out ?_
      case yA8 => (go_simp; try with_reducible rfl)
      refine wpAnyH_take (i := 9) (v := ?vA9) rfl (by kernel_rfl) (by kernel_rfl) (by kernel_rfl) (fun _ _ _ h => h) (Or.inl ⟨by rfl, fun w' _ => ?yA9⟩) HH.out ?_
      case yA9 => (go_simp; try with_reducible rfl)
      refine wpAnyH_take (i := 10) (v := ?vA10) rfl (by kernel_rfl) (by kernel_rfl) (by kernel_rfl) (fun _ _ _ h => h) (Or.inl ⟨by rfl, fun w' _ => ?yA10⟩) HH.out ?_
      case yA10 => (go_simp; try with_reducible rfl)
      try simp only [List.getElem_toArray, List.getElem_cons_succ, List.getElem_cons_zero, Act.put, List.setIfInBounds_toArray, List.set_cons_zero, List.set_cons_succ]
      refine wpAnyH_ready (rs := [11]) (by kernel_rfl) (by simp) (AllReadyH.cons rfl (fun K hK => ?_) AllReadyH.nil)
      go_simp
      refine hK.out _ _ (HP.out _ _ _ (((ML C G g).and (argB g n x b)).below H.out (B2.out.alloc B2.out.size _))) (fun hh => ?_)
      have HH' := Lib.hid hh
      clear hh hK K HH
      have HH := Lib.hid HH'.out
      clear HH'
      try simp only [List.getElem_toArray, List.getElem_cons_succ, List.getElem_cons_zero, Act.put, List.setIfInBounds_toArray, List.set_cons_zero, List.set_cons_succ]
      refine wpAnyH_ready (rs := [12]) (by kernel_rfl) (by simp) (AllReadyH.cons rfl (fun K hK => ?_) AllReadyH.nil)
      rw [if_pos (by rfl)]
      refine wp_store_row 38 (.tmp 6) (.tmp 17) rfl (w2.heap.size) (bva y) rfl rfl 38 (bva z) (heap_alloc_new _ _) HIY.out (by rw [bva_size, bva_size, HY3.out, HZ3.out]) (bva_one _) ?_
      have B3 := Lib.hid (show Below w.heap.size w ((w2.alloc (.cells (bva z) 38)).setRow (w2.heap.size) (bva y)) from below_setRow (B2.out.alloc B2.out.size _) (B2.out.size) _)
      have X3 := Lib.hid (show Blk ((w2.alloc (.cells (bva z) 38)).setRow (w2.heap.size) (bva y)) (w2.heap.size) (bva y) 38 from setRow_heap _ _ _ _ _ _ (heap_alloc_new _ _))
      refine hK.out _ _ (HP.out _ _ _ (((ML C G g).and (argB g n x b)).below H.out B3.out)) (fun hh => ?_)
      have HH' := Lib.hid hh
      clear hh hK K HH
      have HH := Lib.hid HH'.out
      clear HH'
      refine wpAnyH_take (i := 13) (v := ?vA13) rfl (by kernel_rfl) (by kernel_rfl) (by kernel_rfl) (fun _ _ _ h => h) (Or.inl ⟨by rfl, fun w' _ => ?yA13⟩) HH.out ?_
      case yA13 => (go_simp; try with_reducible rfl)
      try simp only [List.getElem_toArray, List.getElem_cons_succ, List.getElem_cons_zero, Act.put, List.setIfInBounds_toArray, List.set_cons_zero, List.set_cons_succ]
      refine wpAnyH_done (by kernel_rfl) ?_ _
      go_wp2_with fail
      go_meet
      exact ⟨_, F, rfl, rfl, (Mv.start H.out).below B3.out, Bx.new (Mv.start H.out) X3.out (B2.out.size)⟩
    · go_simp
      refine hK.out _ _ (HP.out _ _ _ (((ML C G g).and (argB g n x b)).below H.out ((Below.refl w.heap.size w).drew.alloc (Nat.le_refl _) (.cells (bva z) 38)))) (fun hh => ?_)
      have HH' := Lib.hid hh
      clear hh hK K HH
      have HH := Lib.hid HH'.out
      clear HH'
      try simp only [List.getElem_toArray, List.getElem_cons_succ, List.getElem_cons_zero, Act.put, List.setIfInBounds_toArray, List.set_cons_zero, List.set_cons_succ]
      refine wpAnyH_ready (rs := [7]) (by kernel_rfl) (by simp) (AllReadyH.cons rfl (fun K hK => ?_) AllReadyH.nil)
      go_simp
      refine (HRD.out _ (((Below.refl w.heap.size w).drew.alloc (Nat.le_refl _) (.cells (bva z) 38)))).mono ?_
      rintro e w2 ⟨rfl, bw⟩
      have B2 := Lib.hid ((((Below.refl w.heap.size w).drew.alloc (Nat.le_refl _) (.cells (bva z) 38))).trans (bw.mono (((Below.refl w.heap.size w).drew.alloc (Nat.le_refl _) (.cells (bva z) 38))).size))
      have X2 := Lib.hid (show Blk w2 w.heap.size (bva z) 38 from Blk.below (show Blk (w.drew.alloc (.cells (bva z) 38)) w.heap.size (bva z) 38 from heap_alloc_new _ _) bw)
      clear bw
      go_simp
      refine hK.out _ _ (HP.out _ _ _ (((ML C G g).and (argB g n x b)).below H.out B2.out)) (fun hh => ?_)
      have HH' := Lib.hid hh
      clear hh hK K HH
      have HH := Lib.hid HH'.out
      clear HH'
      refine wpAnyH_take (i := 8) (v := ?vB8) rfl (by kernel_rfl) (by kernel_rfl) (by kernel_rfl) (fun _ _ _ h => h) (Or.inl ⟨by rfl, fun w' _ => ?yB8⟩) HH.out ?_
      case yB8 => (go_simp; try with_reducible rfl)
      refine wpAnyH_take (i := 9) (v := ?vB9) rfl (by kernel_rfl) (by kernel_rfl) (by kernel_rfl) (fun _ _ _ h => h) (Or.inl ⟨by rfl, fun w' _ => ?yB9⟩) HH.out ?_
      case yB9 => (go_simp; try with_reducible rfl)
      refine wpAnyH_take (i := 10) (v := ?vB10) rfl (by kernel_rfl) (by kernel_rfl) (by kernel_rfl) (fun _ _ _ h => h) (Or.inl ⟨by rfl, fun w' _ => ?yB10⟩) HH.out ?_
      case yB10 => (go_simp; try with_reducible rfl)
      try simp only [List.getElem_toArray, List.getElem_cons_succ, List.getElem_cons_zero, Act.put, List.setIfInBounds_toArray, List.set_cons_zero, List.set_cons_succ]
      refine wpAnyH_ready (rs := [12]) (by kernel_rfl) (by simp) (AllReadyH.cons rfl (fun K hK => ?_) AllReadyH.nil)
      rw [if_pos (by rfl)]
      refine wp_store_row 38 (.tmp 6) (.tmp 17) rfl (w.heap.size) (bva y) rfl rfl 38 (bva z) (X2.out) HIY.out (by rw [bva_size, bva_size, HY3.out, HZ3.out]) (bva_one _) ?_
      have B3 := Lib.hid (show Below w.heap.size w (w2.setRow (w.heap.size) (bva y)) from below_setRow B2.out (Nat.le_refl _) _)
      have X3 := Lib.hid (show Blk (w2.setRow (w.heap.size) (bva y)) (w.heap.size) (bva y) 38 from setRow_heap _ _ _ _ _ _ (X2.out))
      refine hK.out _ _ (HP.out _ _ _ (((ML C G g).and (argB g n x b)).below H.out B3.out)) (fun hh => ?_)
      have HH' := Lib.hid hh
      clear hh hK K HH
      have HH := Lib.hid HH'.out
      clear HH'
      refine wpAnyH_take (i := 13) (v := ?vB13) rfl (by kernel_rfl) (by kernel_rfl) (by kernel_rfl) (fun _ _ _ h => h) (Or.inl ⟨by rfl, fun w' _ => ?yB13⟩) HH.out ?_
      case yB13 => (go_simp; try with_reducible rfl)
      try simp only [List.getElem_toArray, List.getElem_cons_succ, List.getElem_cons_zero, Act.put, List.setIfInBounds_toArray, List.set_cons_zero, List.set_cons_succ]
      refine wpAnyH_done (by kernel_rfl) ?_ _
      go_wp2_with fail
      go_meet
      exact ⟨_, F, rfl, rfl, (Mv.start H.out).below B3.out, Bx.new (Mv.start H.out) X3.out (Nat.le_refl _)⟩
  case rest =>
    obtain ⟨q, F', rfl, rfl, hm, hbx⟩ := hcut
    have M := Lib.hid hm
    have X := Lib.hid hbx
    clear hm hbx HRD
    by_cases hr0 : r = 0
    · subst hr0
      by_cases hyx : y = x
      · have HEND := Lib.hid (show RV = (true, s) by rw [HRV.out, if_pos rfl, if_pos hyx])
        have HEQ := Lib.hid (show ∀ W, (Op.equalIn 10000 38 (.agg (bva y)) (.agg (bva x))).run Try.prog W = .ok true W from fun W => by rw [eq_sec _ _ HY3.out HX3.out, decide_eq_true hyx])
        clear hyx
        go_wp2_with fail
        refine wp_region_held_drew (S := fun w' => w'.cell? ⟨g, i, none⟩ = some (.pointer P) ∧ w'.cell? ⟨b, 0, none⟩ = some (.pointer (some ⟨g, 0, none⟩)) ∧ w'.cell? ⟨b + 1, 0, none⟩ = some (.int .i64 n) ∧ Blk w' (b + 1 + 1) (bva x) 38 ∧ Blk w' q (bva y) 38) (by kernel_rfl) (⟨(HP.out _ _ _ (M.out.below (w2 := wc.drew) (Below.refl _ _).drew).at_).1, (HP.out _ _ _ (M.out.below (w2 := wc.drew) (Below.refl _ _).drew).at_).2.1, (HP.out _ _ _ (M.out.below (w2 := wc.drew) (Below.refl _ _).drew).at_).2.2.1, (HP.out _ _ _ (M.out.below (w2 := wc.drew) (Below.refl _ _).drew).at_).2.2.2, (X.out.below (w2 := wc.drew) (Below.refl _ _).drew).1⟩) (fun hh => ?_)
        have HH := Lib.hid hh
        clear hh
        refine wpAnyH_take (i := 0) (v := ?vEB0) rfl (by kernel_rfl) (by kernel_rfl) (by kernel_rfl) (fun _ _ _ h => h) (Or.inl ⟨by rfl, fun w' _ => ?yEB0⟩) HH.out ?_
        case yEB0 => (go_simp; try with_reducible rfl)
        refine wpAnyH_take (i := 1) (v := ?vEB1) rfl (by kernel_rfl) (by kernel_rfl) (by kernel_rfl) (fun _ _ _ h => h) (Or.inl ⟨by rfl, fun w' _ => ?yEB1⟩) HH.out ?_
        case yEB1 => (go_simp; try with_reducible rfl)
        try simp only [List.getElem_toArray, List.getElem_cons_succ, List.getElem_cons_zero, Act.put, List.setIfInBounds_toArray, List.set_cons_zero, List.set_cons_succ]
        refine wpAnyH_take (i := 2) (v := ?vEB2) rfl (by kernel_rfl) (by kernel_rfl) (by kernel_rfl) (fun _ _ _ h => h) (Or.inl ⟨by rfl, fun w' _ => ?yEB2⟩) HH.out ?_
        case yEB2 => (go_simp; try with_reducible rfl)
        refine wpAnyH_take (i := 3) (v := .agg (bva y)) rfl (by kernel_rfl) (by kernel_rfl) (by kernel_rfl) (fun _ _ _ h => h) (Or.inl ⟨by rfl, fun w' hw' => ?yEB3⟩) HH.out ?_
        case yEB3 => exact exec_load 38 (.tmp 6) rfl rfl hw'.2.2.2.2 Try.underlying38 rfl HIY.out
        refine wpAnyH_take (i := 4) (v := .agg (bva x)) rfl (by kernel_rfl) (by kernel_rfl) (by kernel_rfl) (fun _ _ _ h => h) (Or.inl ⟨by rfl, fun w' hw' => ?yEB4⟩) HH.out ?_
        case yEB4 => exact exec_load 38 (.tmp 3) rfl rfl hw'.2.2.2.1 Try.underlying38 rfl HIX.out
        try simp only [List.getElem_toArray, List.getElem_cons_succ, List.getElem_cons_zero, Act.put, List.setIfInBounds_toArray, List.set_cons_zero, List.set_cons_succ]
        refine wpAnyH_take (i := 5) (v := .bool true) rfl (by kernel_rfl) (by kernel_rfl) (by kernel_rfl) (fun _ _ _ h => h) (Or.inl ⟨by rfl, fun w' hw' => ?yEB5⟩) HH.out ?_
        case yEB5 => (go_simp; rw [HEQ.out]; rfl)
        try simp only [List.getElem_toArray, List.getElem_cons_succ, List.getElem_cons_zero, Act.put, List.setIfInBounds_toArray, List.set_cons_zero, List.set_cons_succ]
        refine wpAnyH_take (i := 6) (v := ?vEB6) rfl (by kernel_rfl) (by kernel_rfl) (by kernel_rfl) (fun _ _ _ h => h) (Or.inl ⟨by rfl, fun w' _ => ?yEB6⟩) HH.out ?_
        case yEB6 => (go_simp; try with_reducible rfl)
        refine wpAnyH_take (i := 7) (v := undef) rfl (by kernel_rfl) (by kernel_rfl) (by kernel_rfl) (fun _ _ _ h => h) (Or.inr ⟨by rfl, rfl⟩) HH.out ?_
        try simp only [List.getElem_toArray, List.getElem_cons_succ, List.getElem_cons_zero, Act.put, List.setIfInBounds_toArray, List.set_cons_zero, List.set_cons_succ]
        refine wpAnyH_take (i := 8) (v := undef) rfl (by kernel_rfl) (by kernel_rfl) (by kernel_rfl) (fun _ _ _ h => h) (Or.inr ⟨by rfl, rfl⟩) HH.out ?_
        refine wpAnyH_take (i := 9) (v := undef) rfl (by kernel_rfl) (by kernel_rfl) (by kernel_rfl) (fun _ _ _ h => h) (Or.inr ⟨by rfl, rfl⟩) HH.out ?_
        refine wpAnyH_take (i := 10) (v := undef) rfl (by kernel_rfl) (by kernel_rfl) (by kernel_rfl) (fun _ _ _ h => h) (Or.inr ⟨by rfl, rfl⟩) HH.out ?_
        try simp only [List.getElem_toArray, List.getElem_cons_succ, List.getElem_cons_zero, Act.put, List.setIfInBounds_toArray, List.set_cons_zero, List.set_cons_succ]
        refine wpAnyH_take (i := 11) (v := undef) rfl (by kernel_rfl) (by kernel_rfl) (by kernel_rfl) (fun _ _ _ h => h) (Or.inr ⟨by rfl, rfl⟩) HH.out ?_
        refine wpAnyH_take (i := 12) (v := undef) rfl (by kernel_rfl) (by kernel_rfl) (by kernel_rfl) (fun _ _ _ h => h) (Or.inr ⟨by rfl, rfl⟩) HH.out ?_
        refine wpAnyH_take (i := 13) (v := undef) rfl (by kernel_rfl) (by kernel_rfl) (by kernel_rfl) (fun _ _ _ h => h) (Or.inr ⟨by rfl, rfl⟩) HH.out ?_
        try simp only [List.getElem_toArray, List.getElem_cons_succ, List.getElem_cons_zero, Act.put, List.setIfInBounds_toArray, List.set_cons_zero, List.set_cons_succ]
        refine wpAnyH_take (i := 14) (v := undef) rfl (by kernel_rfl) (by kernel_rfl) (by kernel_rfl) (fun _ _ _ h => h) (Or.inr ⟨by rfl, rfl⟩) HH.out ?_
        refine wpAnyH_take (i := 15) (v := undef) rfl (by kernel_rfl) (by kernel_rfl) (by kernel_rfl) (fun _ _ _ h => h) (Or.inr ⟨by rfl, rfl⟩) HH.out ?_
        refine wpAnyH_take (i := 16) (v := undef) rfl (by kernel_rfl) (by kernel_rfl) (by kernel_rfl) (fun _ _ _ h => h) (Or.inr ⟨by rfl, rfl⟩) HH.out ?_
        try simp only [List.getElem_toArray, List.getElem_cons_succ, List.getElem_cons_zero, Act.put, List.setIfInBounds_toArray, List.set_cons_zero, List.set_cons_succ]
        refine wpAnyH_take (i := 17) (v := ?vEB17) rfl (by kernel_rfl) (by kernel_rfl) (by kernel_rfl) (fun _ _ _ h => h) (Or.inl ⟨by rfl, fun w' _ => ?yEB17⟩) HH.out ?_
        case yEB17 => (go_simp; try with_reducible rfl)
        refine wpAnyH_take (i := 18) (v := ?vEB18) rfl (by kernel_rfl) (by kernel_rfl) (by kernel_rfl) (fun _ _ _ h => h) (Or.inl ⟨by rfl, fun w' _ => ?yEB18⟩) HH.out ?_
        case yEB18 => (go_simp; try with_reducible rfl)
        refine wpAnyH_take (i := 19) (v := ?vEB19) rfl (by kernel_rfl) (by kernel_rfl) (by kernel_rfl) (fun _ _ _ h => h) (Or.inl ⟨by rfl, fun w' _ => ?yEB19⟩) HH.out ?_
        case yEB19 => (go_simp; try with_reducible rfl)
        try simp only [List.getElem_toArray, List.getElem_cons_succ, List.getElem_cons_zero, Act.put, List.setIfInBounds_toArray, List.set_cons_zero, List.set_cons_succ]
        refine wpAnyH_done (by kernel_rfl) ?_ _
        go_wp2_with fail
        go_ret
        exact ⟨by rw [HEND.out]; rfl, F', by rw [HEND.out]; exact M.out.below (Below.refl _ _).drew⟩
      · have HEND := Lib.hid (show RV = ((C.wr s.d i n x).1 == 0, s.dev (C.wr s.d i n x).2) by rw [HRV.out, if_pos rfl, if_neg hyx])
        have HEQ := Lib.hid (show ∀ W, (Op.equalIn 10000 38 (.agg (bva y)) (.agg (bva x))).run Try.prog W = .ok false W from fun W => by rw [eq_sec _ _ HY3.out HX3.out, decide_eq_false hyx])
        clear hyx
        have hd : ((ML C G g).and (argB g n x b)).At wc.drew s F' := ((ML C G g).and (argB g n x b)).below M.out.at_ (Below.refl _ _).drew
        obtain ⟨F0, hd0, hl⟩ := and_ret hd
        have HCW := Lib.hid ((ml_write hd0 HI.out n x HX3.out HMM.out).mono fun _ _ hr => hl hr)
        rw [← HPE.out] at HCW
        obtain ⟨rr, hrr⟩ : ∃ rr, rr = (C.wr s.d i n x).1 := ⟨_, rfl⟩
        rw [← hrr] at HCW HEND
        clear hd hl hd0 hrr
        go_wp2_with fail
        refine wp_region_held_drew (S := fun w' => w'.cell? ⟨g, i, none⟩ = some (.pointer P) ∧ w'.cell? ⟨b, 0, none⟩ = some (.pointer (some ⟨g, 0, none⟩)) ∧ w'.cell? ⟨b + 1, 0, none⟩ = some (.int .i64 n) ∧ Blk w' (b + 1 + 1) (bva x) 38 ∧ Blk w' q (bva y) 38) (by kernel_rfl) (⟨(HP.out _ _ _ (M.out.below (w2 := wc.drew) (Below.refl _ _).drew).at_).1, (HP.out _ _ _ (M.out.below (w2 := wc.drew) (Below.refl _ _).drew).at_).2.1, (HP.out _ _ _ (M.out.below (w2 := wc.drew) (Below.refl _ _).drew).at_).2.2.1, (HP.out _ _ _ (M.out.below (w2 := wc.drew) (Below.refl _ _).drew).at_).2.2.2, (X.out.below (w2 := wc.drew) (Below.refl _ _).drew).1⟩) (fun hh => ?_)
        have HH := Lib.hid hh
        clear hh
        refine wpAnyH_take (i := 0) (v := ?vEC0) rfl (by kernel_rfl) (by kernel_rfl) (by kernel_rfl) (fun _ _ _ h => h) (Or.inl ⟨by rfl, fun w' _ => ?yEC0⟩) HH.out ?_
        case yEC0 => (go_simp; try with_reducible rfl)
        refine wpAnyH_take (i := 1) (v := ?vEC1) rfl (by kernel_rfl) (by kernel_rfl) (by kernel_rfl) (fun _ _ _ h => h) (Or.inl ⟨by rfl, fun w' _ => ?yEC1⟩) HH.out ?_
        case yEC1 => (go_simp; try with_reducible rfl)
        try simp only [List.getElem_toArray, List.getElem_cons_succ, List.getElem_cons_zero, Act.put, List.setIfInBounds_toArray, List.set_cons_zero, List.set_cons_succ]
        refine wpAnyH_take (i := 2) (v := ?vEC2) rfl (by kernel_rfl) (by kernel_rfl) (by kernel_rfl) (fun _ _ _ h => h) (Or.inl ⟨by rfl, fun w' _ => ?yEC2⟩) HH.out ?_
        case yEC2 => (go_simp; try with_reducible rfl)
        refine wpAnyH_take (i := 3) (v := .agg (bva y)) rfl (by kernel_rfl) (by kernel_rfl) (by kernel_rfl) (fun _ _ _ h => h) (Or.inl ⟨by rfl, fun w' hw' => ?yEC3⟩) HH.out ?_
        case yEC3 => exact exec_load 38 (.tmp 6) rfl rfl hw'.2.2.2.2 Try.underlying38 rfl HIY.out
        refine wpAnyH_take (i := 4) (v := .agg (bva x)) rfl (by kernel_rfl) (by kernel_rfl) (by kernel_rfl) (fun _ _ _ h => h) (Or.inl ⟨by rfl, fun w' hw' => ?yEC4⟩) HH.out ?_
        case yEC4 => exact exec_load 38 (.tmp 3) rfl rfl hw'.2.2.2.1 Try.underlying38 rfl HIX.out
        try simp only [List.getElem_toArray, List.getElem_cons_succ, List.getElem_cons_zero, Act.put, List.setIfInBounds_toArray, List.set_cons_zero, List.set_cons_succ]
        refine wpAnyH_take (i := 5) (v := .bool false) rfl (by kernel_rfl) (by kernel_rfl) (by kernel_rfl) (fun _ _ _ h => h) (Or.inl ⟨by rfl, fun w' hw' => ?yEC5⟩) HH.out ?_
        case yEC5 => (go_simp; rw [HEQ.out]; rfl)
        try simp only [List.getElem_toArray, List.getElem_cons_succ, List.getElem_cons_zero, Act.put, List.setIfInBounds_toArray, List.set_cons_zero, List.set_cons_succ]
        refine wpAnyH_take (i := 6) (v := ?vEC6) rfl (by kernel_rfl) (by kernel_rfl) (by kernel_rfl) (fun _ _ _ h => h) (Or.inl ⟨by rfl, fun w' _ => ?yEC6⟩) HH.out ?_
        case yEC6 => (go_simp; try with_reducible rfl)
        refine wpAnyH_take (i := 7) (v := .pointer (some ⟨g, 0, none⟩)) rfl (by kernel_rfl) (by kernel_rfl) (by kernel_rfl) (fun _ _ _ h => h) (Or.inl ⟨by rfl, fun w' hw' => ?yEC7⟩) HH.out ?_
        case yEC7 => (have hc := hw'.2.1; go_simp; try with_reducible rfl)
        try simp only [List.getElem_toArray, List.getElem_cons_succ, List.getElem_cons_zero, Act.put, List.setIfInBounds_toArray, List.set_cons_zero, List.set_cons_succ]
        refine wpAnyH_take (i := 8) (v := ?vEC8) rfl (by kernel_rfl) (by kernel_rfl) (by kernel_rfl) (fun _ _ _ h => h) (Or.inl ⟨by rfl, fun w' _ => ?yEC8⟩) HH.out ?_
        case yEC8 => (go_simp; try with_reducible rfl)
        try simp only [List.getElem_toArray, List.getElem_cons_succ, List.getElem_cons_zero, Act.put, List.setIfInBounds_toArray, List.set_cons_zero, List.set_cons_succ]
        refine wpAnyH_take (i := 9) (v := ?vEC9) rfl (by kernel_rfl) (by kernel_rfl) (by kernel_rfl) (fun _ _ _ h => h) (Or.inl ⟨by rfl, fun w' _ => ?yEC9⟩) HH.out ?_
        case yEC9 => (go_simp; try with_reducible rfl)
        try simp only [List.getElem_toArray, List.getElem_cons_succ, List.getElem_cons_zero, Act.put, List.setIfInBounds_toArray, List.set_cons_zero, List.set_cons_succ]
        refine wpAnyH_take (i := 10) (v := ?vEC10) rfl (by kernel_rfl) (by kernel_rfl) (by kernel_rfl) (fun _ _ _ h => h) (Or.inl ⟨by rfl, fun w' _ => ?yEC10⟩) HH.out ?_
        case yEC10 => (go_simp; try with_reducible rfl)
        try simp only [List.getElem_toArray, List.getElem_cons_succ, List.getElem_cons_zero, Act.put, List.setIfInBounds_toArray, List.set_cons_zero, List.set_cons_succ]
        refine wpAnyH_take (i := 11) (v := ?vEC11) rfl (by kernel_rfl) (by kernel_rfl) (by kernel_rfl) (fun _ _ _ h => h) (Or.inl ⟨by rfl, fun w' _ => ?yEC11⟩) HH.out ?_
        case yEC11 => (go_simp; try with_reducible rfl)
        refine wpAnyH_take (i := 12) (v := .pointer P) rfl (by kernel_rfl) (by kernel_rfl) (by kernel_rfl) (fun _ _ _ h => h) (Or.inl ⟨by rfl, fun w' hw' => ?yEC12⟩) HH.out ?_
        case yEC12 => (have hc := hw'.1; go_simp; try with_reducible rfl)
        refine wpAnyH_take (i := 13) (v := .int .i64 n) rfl (by kernel_rfl) (by kernel_rfl) (by kernel_rfl) (fun _ _ _ h => h) (Or.inl ⟨by rfl, fun w' hw' => ?yEC13⟩) HH.out ?_
        case yEC13 => (have hc := hw'.2.2.1; go_simp; try with_reducible rfl)
        try simp only [List.getElem_toArray, List.getElem_cons_succ, List.getElem_cons_zero, Act.put, List.setIfInBounds_toArray, List.set_cons_zero, List.set_cons_succ]
        refine wpAnyH_take (i := 14) (v := .agg (bva x)) rfl (by kernel_rfl) (by kernel_rfl) (by kernel_rfl) (fun _ _ _ h => h) (Or.inl ⟨by rfl, fun w' hw' => ?yEC14⟩) HH.out ?_
        case yEC14 => exact exec_load 38 (.tmp 3) rfl rfl hw'.2.2.2.1 Try.underlying38 rfl HIX.out
        try simp only [List.getElem_toArray, List.getElem_cons_succ, List.getElem_cons_zero, Act.put, List.setIfInBounds_toArray, List.set_cons_zero, List.set_cons_succ]
        refine wpAnyH_ready (rs := [15]) (by kernel_rfl) (by simp) (AllReadyH.cons rfl (fun K hK => ?_) AllReadyH.nil)
        go_simp
        refine HCW.out.mono ?_
        rintro e2 w2 ⟨rfl, F2, hm2⟩
        have M2 := Lib.hid ((M.out.below (Below.refl _ _).drew).trans hm2)
        have X2 := Lib.hid ((X.out.below (Below.refl _ _).drew).step hm2)
        go_simp
        refine hK.out _ _ (⟨(HP.out _ _ _ M2.out.at_).1, (HP.out _ _ _ M2.out.at_).2.1, (HP.out _ _ _ M2.out.at_).2.2.1, (HP.out _ _ _ M2.out.at_).2.2.2, X2.out.1⟩) (fun hh => ?_)
        have HH' := Lib.hid hh
        clear hh hK K HH hm2 HCW
        have HH := Lib.hid HH'.out
        clear HH'
        try simp only [List.getElem_toArray, List.getElem_cons_succ, List.getElem_cons_zero, Act.put, List.setIfInBounds_toArray, List.set_cons_zero, List.set_cons_succ]
        refine wpAnyH_take (i := 16) (v := ?vEC16) rfl (by kernel_rfl) (by kernel_rfl) (by kernel_rfl) (fun _ _ _ h => h) (Or.inl ⟨by rfl, fun w' _ => ?yEC16⟩) HH.out ?_
        case yEC16 => (go_simp; try with_reducible rfl)
        try simp only [List.getElem_toArray, List.getElem_cons_succ, List.getElem_cons_zero, Act.put, List.setIfInBounds_toArray, List.set_cons_zero, List.set_cons_succ]
        refine wpAnyH_take (i := 17) (v := ?vEC17) rfl (by kernel_rfl) (by kernel_rfl) (by kernel_rfl) (fun _ _ _ h => h) (Or.inl ⟨by rfl, fun w' _ => ?yEC17⟩) HH.out ?_
        case yEC17 => (go_simp; try with_reducible rfl)
        refine wpAnyH_take (i := 18) (v := ?vEC18) rfl (by kernel_rfl) (by kernel_rfl) (by kernel_rfl) (fun _ _ _ h => h) (Or.inl ⟨by rfl, fun w' _ => ?yEC18⟩) HH.out ?_
        case yEC18 => (go_simp; try with_reducible rfl)
        refine wpAnyH_take (i := 19) (v := ?vEC19) rfl (by kernel_rfl) (by kernel_rfl) (by kernel_rfl) (fun _ _ _ h => h) (Or.inl ⟨by rfl, fun w' _ => ?yEC19⟩) HH.out ?_
        case yEC19 => (go_simp; try with_reducible rfl)
        try simp only [List.getElem_toArray, List.getElem_cons_succ, List.getElem_cons_zero, Act.put, List.setIfInBounds_toArray, List.set_cons_zero, List.set_cons_succ]
        refine wpAnyH_done (by kernel_rfl) ?_ _
        go_wp2_with fail
        go_ret
        exact ⟨by rw [HEND.out]; rfl, F2, by rw [HEND.out]; exact M2.out⟩
    · have HEND := Lib.hid (show RV = (false, s) by rw [HRV.out, if_neg hr0])
      have hd0 : (r == 0) = false := by simpa using hr0
      go_wp2_with fail
      refine wp_region_held_drew (S := fun w' => w'.cell? ⟨g, i, none⟩ = some (.pointer P) ∧ w'.cell? ⟨b, 0, none⟩ = some (.pointer (some ⟨g, 0, none⟩)) ∧ w'.cell? ⟨b + 1, 0, none⟩ = some (.int .i64 n) ∧ Blk w' (b + 1 + 1) (bva x) 38 ∧ Blk w' q (bva y) 38) (by kernel_rfl) (⟨(HP.out _ _ _ (M.out.below (w2 := wc.drew) (Below.refl _ _).drew).at_).1, (HP.out _ _ _ (M.out.below (w2 := wc.drew) (Below.refl _ _).drew).at_).2.1, (HP.out _ _ _ (M.out.below (w2 := wc.drew) (Below.refl _ _).drew).at_).2.2.1, (HP.out _ _ _ (M.out.below (w2 := wc.drew) (Below.refl _ _).drew).at_).2.2.2, (X.out.below (w2 := wc.drew) (Below.refl _ _).drew).1⟩) (fun hh => ?_)
      have HH := Lib.hid hh
      clear hh
      refine wpAnyH_take (i := 0) (v := ?vEA0) rfl (by kernel_rfl) (by kernel_rfl) (by kernel_rfl) (fun _ _ _ h => h) (Or.inl ⟨by rfl, fun w' _ => ?yEA0⟩) HH.out ?_
      case yEA0 => (go_simp; try with_reducible rfl)
      refine wpAnyH_take (i := 1) (v := .bool false) rfl (by kernel_rfl) (by kernel_rfl) (by kernel_rfl) (fun _ _ _ h => h) (Or.inl ⟨by rfl, fun w' hw' => ?yEA1⟩) HH.out ?_
      case yEA1 => (go_simp; try rw [hd0])
      try simp only [List.getElem_toArray, List.getElem_cons_succ, List.getElem_cons_zero, Act.put, List.setIfInBounds_toArray, List.set_cons_zero, List.set_cons_succ]
      refine wpAnyH_take (i := 2) (v := ?vEA2) rfl (by kernel_rfl) (by kernel_rfl) (by kernel_rfl) (fun _ _ _ h => h) (Or.inl ⟨by rfl, fun w' _ => ?yEA2⟩) HH.out ?_
      case yEA2 => (go_simp; try with_reducible rfl)
      refine wpAnyH_take (i := 3) (v := undef) rfl (by kernel_rfl) (by kernel_rfl) (by kernel_rfl) (fun _ _ _ h => h) (Or.inr ⟨by rfl, rfl⟩) HH.out ?_
      refine wpAnyH_take (i := 4) (v := undef) rfl (by kernel_rfl) (by kernel_rfl) (by kernel_rfl) (fun _ _ _ h => h) (Or.inr ⟨by rfl, rfl⟩) HH.out ?_
      try simp only [List.getElem_toArray, List.getElem_cons_succ, List.getElem_cons_zero, Act.put, List.setIfInBounds_toArray, List.set_cons_zero, List.set_cons_succ]
      refine wpAnyH_take (i := 5) (v := undef) rfl (by kernel_rfl) (by kernel_rfl) (by kernel_rfl) (fun _ _ _ h => h) (Or.inr ⟨by rfl, rfl⟩) HH.out ?_
      refine wpAnyH_take (i := 6) (v := undef) rfl (by kernel_rfl) (by kernel_rfl) (by kernel_rfl) (fun _ _ _ h => h) (Or.inr ⟨by rfl, rfl⟩) HH.out ?_
      refine wpAnyH_take (i := 7) (v := undef) rfl (by kernel_rfl) (by kernel_rfl) (by kernel_rfl) (fun _ _ _ h => h) (Or.inr ⟨by rfl, rfl⟩) HH.out ?_
      try simp only [List.getElem_toArray, List.getElem_cons_succ, List.getElem_cons_zero, Act.put, List.setIfInBounds_toArray, List.set_cons_zero, List.set_cons_succ]
      refine wpAnyH_take (i := 8) (v := undef) rfl (by kernel_rfl) (by kernel_rfl) (by kernel_rfl) (fun _ _ _ h => h) (Or.inr ⟨by rfl, rfl⟩) HH.out ?_
      refine wpAnyH_take (i := 9) (v := undef) rfl (by kernel_rfl) (by kernel_rfl) (by kernel_rfl) (fun _ _ _ h => h) (Or.inr ⟨by rfl, rfl⟩) HH.out ?_
      refine wpAnyH_take (i := 10) (v := undef) rfl (by kernel_rfl) (by kernel_rfl) (by kernel_rfl) (fun _ _ _ h => h) (Or.inr ⟨by rfl, rfl⟩) HH.out ?_
      try simp only [List.getElem_toArray, List.getElem_cons_succ, List.getElem_cons_zero, Act.put, List.setIfInBounds_toArray, List.set_cons_zero, List.set_cons_succ]
      refine wpAnyH_take (i := 11) (v := undef) rfl (by kernel_rfl) (by kernel_rfl) (by kernel_rfl) (fun _ _ _ h => h) (Or.inr ⟨by rfl, rfl⟩) HH.out ?_
      refine wpAnyH_take (i := 12) (v := undef) rfl (by kernel_rfl) (by kernel_rfl) (by kernel_rfl) (fun _ _ _ h => h) (Or.inr ⟨by rfl, rfl⟩) HH.out ?_
      refine wpAnyH_take (i := 13) (v := undef) rfl (by kernel_rfl) (by kernel_rfl) (by kernel_rfl) (fun _ _ _ h => h) (Or.inr ⟨by rfl, rfl⟩) HH.out ?_
      try simp only [List.getElem_toArray, List.getElem_cons_succ, List.getElem_cons_zero, Act.put, List.setIfInBounds_toArray, List.set_cons_zero, List.set_cons_succ]
      refine wpAnyH_take (i := 14) (v := undef) rfl (by kernel_rfl) (by kernel_rfl) (by kernel_rfl) (fun _ _ _ h => h) (Or.inr ⟨by rfl, rfl⟩) HH.out ?_
      refine wpAnyH_take (i := 15) (v := undef) rfl (by kernel_rfl) (by kernel_rfl) (by kernel_rfl) (fun _ _ _ h => h) (Or.inr ⟨by rfl, rfl⟩) HH.out ?_
      refine wpAnyH_take (i := 16) (v := undef) rfl (by kernel_rfl) (by kernel_rfl) (by kernel_rfl) (fun _ _ _ h => h) (Or.inr ⟨by rfl, rfl⟩) HH.out ?_
      try simp only [List.getElem_toArray, List.getElem_cons_succ, List.getElem_cons_zero, Act.put, List.setIfInBounds_toArray, List.set_cons_zero, List.set_cons_succ]
      refine wpAnyH_take (i := 17) (v := undef) rfl (by kernel_rfl) (by kernel_rfl) (by kernel_rfl) (fun _ _ _ h => h) (Or.inr ⟨by rfl, rfl⟩) HH.out ?_
      refine wpAnyH_take (i := 18) (v := ?vEA18) rfl (by kernel_rfl) (by kernel_rfl) (by kernel_rfl) (fun _ _ _ h => h) (Or.inl ⟨by rfl, fun w' _ => ?yEA18⟩) HH.out ?_
      case yEA18 => (go_simp; try with_reducible rfl)
      refine wpAnyH_take (i := 19) (v := ?vEA19) rfl (by kernel_rfl) (by kernel_rfl) (by kernel_rfl) (fun _ _ _ h => h) (Or.inl ⟨by rfl, fun w' _ => ?yEA19⟩) HH.out ?_
      case yEA19 => (go_simp; try with_reducible rfl)
      try simp only [List.getElem_toArray, List.getElem_cons_succ, List.getElem_cons_zero, Act.put, List.setIfInBounds_toArray, List.set_cons_zero, List.set_cons_succ]
      refine wpAnyH_done (by kernel_rfl) ?_ _
      go_wp2_with fail
      go_ret
      exact ⟨by rw [HEND.out]; rfl, F', by rw [HEND.out]; exact M.out.below (Below.refl _ _).drew⟩
theorem c1_ok {k i : Nat} {n : Int} {x : List UInt8} (h : s.ok k) : (s.c1 n x i).2.ok k := by
  unfold Mr.c1
  split
  · split
    · exact h
    · exact h
  · exact h
theorem c1_most {i : Nat} {n : Int} {x : List UInt8} (hi : i < 2) : C.most (s.c1 n x i).2.d ≤ C.most s.d + 1 := by
  unfold Mr.c1
  split
  · split
    · exact Nat.le_succ _
    · exact C.wr_most hi
  · exact Nat.le_succ _
def Mr.choose (s : Mr C) (n : Int) (x : List UInt8) : Int × Mr C :=
  if has s n then ((s.c1 n x 0).2.c1 n x 1).2.reach n.toNat (s.c1 n x 0).1 ((s.c1 n x 0).2.c1 n x 1).1 else (2, s)
set_option maxRecDepth 100000 in
set_option maxHeartbeats 6400000 in
theorem mchoose_no {p : Option Addr} {n : Int} (x : List UInt8) (hc : ∀ w', Below w.heap.size w w' → Calls Try.prog 109 #[.pointer p, .int .i64 n] w' (RetB (.bool false) w')) : Calls Try.prog 116 #[.pointer p, .int .i64 n, .agg (bva x)] w (RetB (.int .i64 2) w) := by
  obtain ⟨w3, hw3, h0, h1, h2, hb⟩ := three_boxes w (.cells #[.pointer p] 51) (.cells #[.int .i64 n] 3) (.cells (bva x) 38)
  have HC := Lib.hid (hc w3 hb)
  have HB := Lib.hid hb
  have c0 : w3.cell? ⟨w.heap.size, 0, none⟩ = some (.pointer p) := Blk.cell (show Blk w3 w.heap.size #[.pointer p] 51 from h0) 0
  have c1 : w3.cell? ⟨w.heap.size + 1, 0, none⟩ = some (.int .i64 n) := Blk.cell (show Blk w3 (w.heap.size + 1) #[.int .i64 n] 3 from h1) 0
  clear hc h0 h1 h2 hb
  go_enter Try.func116, Try.ntmps116
  go_upto_region 1 with fail
  rw [← hw3]
  clear hw3
  go_wp2_with fail
  refine HC.out.mono ?_
  rintro e w4 ⟨rfl, bw⟩
  go_wp2_with fail
  go_ret
  exact ⟨rfl, HB.out.trans (bw.mono HB.out.size)⟩
theorem mchoose_nil (n : Int) (x : List UInt8) : Calls Try.prog 116 #[.pointer none, .int .i64 n, .agg (bva x)] w (RetB (.int .i64 2) w) := mchoose_no x (fun w' _ => has_nil w' n)
set_option maxRecDepth 100000 in
set_option maxHeartbeats 6400000 in
theorem mchoose_any (h : (ML C G g).At w s F) {k : Nat} (hk : s.ok k) (n : Int) (x : List UInt8) (hx : x.length = 128) (hm : C.most s.d < 900000) : Calls Try.prog 116 #[.pointer (some ⟨g, 0, none⟩), .int .i64 n, .agg (bva x)] w (RetA (ML C G g) (.int .i64 (s.choose n x).1) (s.choose n x).2 F w) := by
  cases hh : has s n with
  | false =>
    rw [Mr.choose, hh, if_neg (by simp)]
    refine (mchoose_no x (fun w' hb => ?_)).mono fun _ _ hr => RetB.reta h hr
    have := has_any ((ML C G g).below h hb) n
    rwa [hh] at this
  | true =>
    obtain ⟨j, rfl⟩ : ∃ j : Nat, n = (j : Int) := ⟨n.toNat, by rw [has] at hh; simp at hh; omega⟩
    have hj : j < k := by rw [has] at hh; simp at hh; rw [← hk.1]; exact hh
    obtain ⟨w3, hw3, h0, h1, h2, hb⟩ := three_boxes w (.cells #[.pointer (some ⟨g, 0, none⟩)] 51) (.cells #[.int .i64 j] 3) (.cells (bva x) 38)
    have M3 := Lib.hid ((Mv.start h).below hb)
    obtain ⟨b, hbe⟩ : ∃ b, b = w.heap.size := ⟨_, rfl⟩
    have X3 := Lib.hid (show ∀ y ∈ argB g j x b, Bx w w3 F y.1 y.2.1 y.2.2 from by
      have hl := (ML C G g).lt h
      intro y hy
      rw [argB, hbe] at hy
      rcases List.mem_cons.1 hy with rfl | hy
      · exact ⟨h0, Nat.le_refl _, fun hf => by have := hl _ hf; omega⟩
      rcases List.mem_cons.1 hy with rfl | hy
      · exact ⟨h1, Nat.le_succ _, fun hf => by have := hl _ hf; omega⟩
      rw [List.mem_singleton] at hy
      subst hy
      exact ⟨h2, by omega, fun hf => by have := hl _ hf; omega⟩)
    have hhas := has_any M3.out.at_ (j : Int)
    rw [hh] at hhas
    have HH1 := Lib.hid hhas
    obtain ⟨sv, hsv⟩ : ∃ sv, sv = s.choose (j : Int) x := ⟨_, rfl⟩
    rw [← hsv]
    have HSV := Lib.hid (show sv = ((s.c1 (j : Int) x 0).2.c1 (j : Int) x 1).2.reach j (s.c1 (j : Int) x 0).1 ((s.c1 (j : Int) x 0).2.c1 (j : Int) x 1).1 by rw [hsv, Mr.choose, hh, if_pos rfl, Int.toNat_natCast])
    have HK := Lib.hid hk
    have HJ := Lib.hid hj
    have HX3 := Lib.hid hx
    have HM := Lib.hid hm
    have c0 : w3.cell? ⟨b, 0, none⟩ = some (.pointer (some ⟨g, 0, none⟩)) := by rw [hbe]; exact Blk.cell (show Blk w3 w.heap.size #[.pointer (some ⟨g, 0, none⟩)] 51 from h0) 0
    have c1 : w3.cell? ⟨b + 1, 0, none⟩ = some (.int .i64 j) := by rw [hbe]; exact Blk.cell (show Blk w3 (w.heap.size + 1) #[.int .i64 j] 3 from h1) 0
    clear hsv hhas hh hb h0 h1 h2 hk hj hx hm h
    go_enter Try.func116, Try.ntmps116
    go_upto_region 1 with fail
    rw [← hw3, ← hbe]
    clear hw3 hbe
    go_wp2_with fail
    refine HH1.out.mono ?_
    rintro e w4 ⟨rfl, bw⟩
    have M4 := Lib.hid (M3.out.below bw)
    have X4 := Lib.hid (show ∀ y ∈ argB g j x b, Bx w w4 F y.1 y.2.1 y.2.2 from fun y hy => (X3.out y hy).below bw)
    have d0 : w4.cell? ⟨b, 0, none⟩ = some (.pointer (some ⟨g, 0, none⟩)) := (X4.out _ (by unfold argB; exact List.mem_cons_self)).1.cell 0
    have d1 : w4.cell? ⟨b + 1, 0, none⟩ = some (.int .i64 j) := (X4.out _ (by unfold argB; exact List.mem_cons_of_mem _ List.mem_cons_self)).1.cell 0
    clear bw M3 X3 c0 c1 HH1
    go_wp2_with fail
    have hcall := reached_any (and_start M4.out X4.out) (n := j) (b := #[]) (c := #[.pointer (some ⟨b, 0, none⟩), .pointer (some ⟨b + 1, 0, none⟩), .pointer (some ⟨b + 1 + 1, 0, none⟩)]) (N := k) (s1 := (s.c1 (j : Int) x 0).2) (s2 := ((s.c1 (j : Int) x 0).2.c1 (j : Int) x 1).2) (c1_ok (c1_ok HK.out)) HJ.out choose1_enter
      (fun w' F' h => choose1_any h (i := 0) (by omega) HX3.out (by have := HM.out; omega)) (fun w' F' h => choose1_any (s := (s.c1 (j : Int) x 0).2) h (i := 1) (by omega) HX3.out (by have := HM.out; have := c1_most (s := s) (i := 0) (n := j) (x := x) (by omega); omega))
    rw [← HSV.out] at hcall
    refine hcall.mono ?_
    clear hcall
    rintro e w5 ⟨rfl, F5, hm5⟩
    have M5 := Lib.hid (and_end M4.out X4.out hm5)
    go_wp2_with fail
    go_ret
    exact ⟨rfl, M5.out⟩
end
end Go.Proofs.Ythadomboiockhaa.Mi
/-
  One device, of a power of its own, or none; two of them beside each other; two of one power.
-/
namespace Go.Proofs.Ythadomboiockhaa.Mi
open Go.RowKit Kd
/-- One device. -/
structure Uno where
  L : Laid
  ptr : Option Addr
  rd : L.St → Int → Int × List UInt8
  wr : L.St → Int → List UInt8 → Int × L.St
  fl : L.St → Int × L.St
  len : L.St → Nat
  most : L.St → Nat
  len_le : ∀ {w s F}, L.At w s F → len s ≤ 4096
  rd_len : ∀ {w s F n}, L.At w s F → (rd s n).2.length = 128
  wr_most : ∀ {s n x}, most (wr s n x).2 ≤ most s + 1
  fl_most : ∀ {s}, most (fl s).2 ≤ most s
  crd : ∀ {w s F}, L.At w s F → ∀ n, Calls Try.prog 27 #[.pointer ptr, .int .i64 n] w (RetB (.tuple #[.agg (bva (rd s n).2), .int .i64 (rd s n).1]) w)
  cwr : ∀ {w s F}, L.At w s F → most s < 1000000 → ∀ n x, x.length = 128 → Calls Try.prog 50 #[.pointer ptr, .int .i64 n, .agg (bva x)] w (RetA L (.int .i64 (wr s n x).1) (wr s n x).2 F w)
  cfl : ∀ {w s F}, L.At w s F → Calls Try.prog 54 #[.pointer ptr] w (RetA L (.int .i64 (fl s).1) (fl s).2 F w)
  clen : ∀ {w s F}, L.At w s F → Calls Try.prog 17 #[.pointer ptr] w (RetB (.int .i64 (len s : Int)) w)
/-! ### How many wait -/
theorem count_wtM (S : Sy) (j : Nat) : (S.count.at j).wt.length ≤ (S.at j).wt.length := by
  unfold Sy.count
  split
  · show ((S.ds.map Dv.fall).getD j noDv).wt.length ≤ (S.ds.getD j noDv).wt.length
    rw [List.getD_eq_getElem?_getD, List.getD_eq_getElem?_getD, List.getElem?_map]
    cases h : S.ds[j]? with
    | none => exact Nat.le_refl _
    | some d =>
      show d.fall.wt.length ≤ d.wt.length
      unfold Dv.fall; split
      · exact Nat.le_refl _
      · exact Nat.zero_le _
  · exact Nat.le_refl _
theorem put_wtM (S : Sy) (k : Nat) (d : Dv) (j : Nat) : ((S.put k d).at j).wt.length ≤ max d.wt.length (S.at j).wt.length := by
  show ((S.ds.set k d).getD j noDv).wt.length ≤ max _ (S.ds.getD j noDv).wt.length
  rw [List.getD_eq_getElem?_getD, List.getD_eq_getElem?_getD, List.getElem?_set]
  split
  · split
    · exact Nat.le_max_left _ _
    · rename_i h1 h2
      subst h1
      rw [List.getElem?_eq_none (by omega)]; exact Nat.zero_le _
  · exact Nat.le_max_right _ _
theorem write_wtM (S : Sy) (k : Nat) (n : Int) (x : List UInt8) (m : Nat) (h : ∀ j, (S.at j).wt.length ≤ m) (j : Nat) : ((S.write k n x).2.at j).wt.length ≤ m + 1 := by
  unfold Sy.write; dsimp only; split
  · exact Nat.le_succ_of_le (h j)
  · refine Nat.le_trans (count_wtM _ j) (Nat.le_trans (put_wtM _ _ _ j) (Nat.max_le.2 ⟨?_, Nat.le_succ_of_le (h j)⟩))
    show ((S.at k).wt ++ _).length ≤ _
    rw [List.length_append]; have := h k; simp; omega
theorem flush_wtM (S : Sy) (k : Nat) (m : Nat) (h : ∀ j, (S.at j).wt.length ≤ m) (j : Nat) : ((S.flush k).2.at j).wt.length ≤ m := by
  unfold Sy.flush; dsimp only; split
  · exact h j
  · split
    · exact Nat.le_trans (count_wtM _ j) (h j)
    · split
      · exact Nat.le_trans (count_wtM _ j) (h j)
      · exact Nat.le_trans (put_wtM _ _ _ j) (Nat.max_le.2 ⟨Nat.zero_le _, Nat.le_trans (count_wtM _ j) (h j)⟩)
theorem write_dsM (S : Sy) (k : Nat) (n : Int) (x : List UInt8) : (S.write k n x).2.ds.length = S.ds.length := by
  unfold Sy.write; dsimp only; split
  · rfl
  · rw [count_length, len_put]
theorem flush_dsM (S : Sy) (k : Nat) : (S.flush k).2.ds.length = S.ds.length := by
  unfold Sy.flush; dsimp only; split
  · rfl
  · split
    · exact count_length S
    · split
      · exact count_length S
      · rw [len_put, count_length]
theorem at_far {S : Sy} {j : Nat} (h : S.ds.length ≤ j) : S.at j = noDv := by
  show S.ds.getD j noDv = noDv
  rw [List.getD_eq_getElem?_getD, List.getElem?_eq_none h]; rfl
/-! ### The devices of one power -/
/-- k devices of one power, as they are laid. -/
def SysL (p : Nat) (gs : List Nat) (k : Nat) : Laid where
  St := Sy
  At w S F := Kd.Sys w p gs S F ∧ S.ds.length = k
  but h hb hd := ⟨h.1.but hb hd, h.2⟩
  lt h := h.1.lt
theorem RetS.reta {p k : Nat} {gs : List Nat} {S : Sy} {F : Nat → Prop} {w w' : World} {v : Value} {e : Ending} (hk : S.ds.length = k) (h : RetS v p gs S F w e w') : RetA (SysL p gs k) v S F w e w' := by
  obtain ⟨rfl, F', h1, h2, h3⟩ := h
  exact ⟨rfl, F', ⟨h1, hk⟩, h2, h3⟩
theorem sys_okM {w : World} {p : Nat} {gs : List Nat} {S : Sy} {F : Nat → Prop} (h : Kd.Sys w p gs S F) {k : Nat} (hk : k < S.ds.length) : (S.at k).ok := by
  obtain ⟨bs, Fs, FA, fc, lf, h, _, _⟩ := h
  obtain ⟨A, n, c, W, m, e, M, D, hd, _⟩ := h.dev k hk
  exact hd.ok
theorem few_one {S : Sy} {m : Nat} (h1 : S.ds.length = 1) (h : (S.at 0).wt.length ≤ m) (j : Nat) : (S.at j).wt.length ≤ m := by
  rcases j with _ | j
  · exact h
  · rw [at_far (by omega)]; exact Nat.zero_le _
def mostS (S : Sy) : Nat := if S.ds.length = 1 then (S.at 0).wt.length else 0
theorem mostS_write (S : Sy) (n : Int) (x : List UInt8) : mostS (S.write 0 n x).2 ≤ mostS S + 1 := by
  unfold mostS
  rw [write_dsM]
  split
  · rename_i h1
    exact write_wtM S 0 n x _ (few_one h1 (Nat.le_refl _)) 0
  · exact Nat.zero_le _
theorem mostS_flush (S : Sy) : mostS (S.flush 0).2 ≤ mostS S := by
  unfold mostS
  rw [flush_dsM]
  split
  · rename_i h1
    exact flush_wtM S 0 _ (few_one h1 (Nat.le_refl _)) 0
  · exact Nat.le_refl _
/-- A device of a power of its own. -/
def uno (p g : Nat) : Uno where
  L := SysL p [g] 1
  ptr := some ⟨g, 0, none⟩
  rd S n := (refuseN S.p (S.at 0) n, readS S.p (S.at 0) n)
  wr S n x := S.write 0 n x
  fl S := S.flush 0
  len S := (S.at 0).st.length
  most S := mostS S
  len_le h := (sys_okM h.1 (k := 0) (by rw [h.2]; omega)).len
  rd_len h := readS_length (sys_okM h.1 (k := 0) (by rw [h.2]; omega)) _
  wr_most {S n x} := mostS_write S n x
  fl_most {S} := mostS_flush S
  crd h n := dread_any h.1 0 (by rw [h.2]; omega) n
  cwr {w S F} h hm n x hx := (write_any h.1 0 (by rw [h.2]; omega) n x hx (by have h1 : mostS S = (Sy.at S 0).wt.length := if_pos h.2
                                                                              rw [← h1]; exact hm)).mono fun _ _ hr => RetS.reta ((write_dsM S 0 n x).trans h.2) hr
  cfl {w S F} h := (flush_any h.1 0 (by rw [h.2]; omega)).mono fun _ _ hr => RetS.reta ((flush_dsM S 0).trans h.2) hr
  clen h := (len_sys h.1 0 (by rw [h.2]; omega)).mono fun _ _ hr => by
    obtain ⟨rfl, rfl⟩ := hr
    exact ⟨rfl, Below.refl _ _⟩
/-- A device that isn't there at all. -/
def unoNil : Uno where
  L := { St := Unit, At := fun w _ F => ∀ q, F q → q < w.heap.size, but := fun h hb _ q hq => Nat.lt_of_lt_of_le (h q hq) hb.size, lt := fun h => h }
  ptr := none
  rd _ _ := (1, zeroS)
  wr s _ _ := (1, s)
  fl s := (1, s)
  len _ := 0
  most _ := 0
  len_le _ := Nat.zero_le _
  rd_len _ := zeroS_length
  wr_most := Nat.zero_le _
  fl_most := Nat.le_refl _
  crd {w s F} _ n := dread_nil w n
  cwr {w s F} h _ n x _ := (dwrite_nil w n x).mono fun _ _ hr => RetB.reta h hr
  cfl {w s F} h := (dflush_nil w).mono fun _ _ hr => RetB.reta h (by obtain ⟨rfl, rfl⟩ := hr; exact ⟨rfl, Below.refl _ _⟩)
  clen _ := len_nil.mono fun _ _ hr => by
    obtain ⟨rfl, rfl⟩ := hr
    exact ⟨rfl, Below.refl _ _⟩
/-! ### Two beside each other -/
def pairL (A B : Laid) : Laid where
  St := A.St × B.St
  At w s F := ∃ F1 F2, A.At w s.1 F1 ∧ B.At w s.2 F2 ∧ (∀ q, F1 q → F2 q → False) ∧ (∀ q, F1 q → F q) ∧ (∀ q, F2 q → F q) ∧ ∀ q, F q → q < w.heap.size
  but := fun ⟨F1, F2, h1, h2, h3, h4, h5, h6⟩ hb hd => ⟨F1, F2, A.but h1 hb (fun q hq => hd q (h4 q hq)), B.but h2 hb (fun q hq => hd q (h5 q hq)), h3, h4, h5, fun q hq => Nat.lt_of_lt_of_le (h6 q hq) hb.size⟩
  lt := fun ⟨_, _, _, _, _, _, _, h6⟩ => h6
section
variable {A B : Laid} {w w' : World} {s : A.St × B.St} {F : Nat → Prop}
theorem pair_fst (h : (pairL A B).At w s F) : ∃ F1, A.At w s.1 F1 ∧ ∀ {v : Value} {a : A.St} {e w'}, RetA A v a F1 w e w' → RetA (pairL A B) v (a, s.2) F w e w' := by
  obtain ⟨F1, F2, h1, h2, h3, h4, h5, h6⟩ := h
  refine ⟨F1, h1, ?_⟩
  rintro v a e w' ⟨rfl, F', hm⟩
  refine ⟨rfl, fun q => F q ∨ F' q, ⟨F', F2, hm.at_, B.but h2 hm.but (fun q a b => h3 q b a), ?_, fun q hq => .inr hq, fun q hq => .inl (h5 q hq), ?_⟩, ?_, hm.but.mono h4⟩
  · intro q a b
    rcases hm.new q a with h7 | h7
    · exact h3 q h7 b
    · have := B.lt h2 q b; omega
  · rintro q (hq | hq)
    · exact Nat.lt_of_lt_of_le (h6 q hq) hm.but.size
    · exact hm.lt q hq
  · rintro q (hq | hq)
    · exact .inl hq
    · exact (hm.new q hq).imp (h4 q) id
theorem pair_snd (h : (pairL A B).At w s F) : ∃ F2, B.At w s.2 F2 ∧ ∀ {v : Value} {b : B.St} {e w'}, RetA B v b F2 w e w' → RetA (pairL A B) v (s.1, b) F w e w' := by
  obtain ⟨F1, F2, h1, h2, h3, h4, h5, h6⟩ := h
  refine ⟨F2, h2, ?_⟩
  rintro v b e w' ⟨rfl, F', hm⟩
  refine ⟨rfl, fun q => F q ∨ F' q, ⟨F1, F', A.but h1 hm.but (fun q a b => h3 q a b), hm.at_, ?_, fun q hq => .inl (h4 q hq), fun q hq => .inr hq, ?_⟩, ?_, hm.but.mono h5⟩
  · intro q a b
    rcases hm.new q b with h7 | h7
    · exact h3 q a h7
    · have := A.lt h1 q a; omega
  · rintro q (hq | hq)
    · exact Nat.lt_of_lt_of_le (h6 q hq) hm.but.size
    · exact hm.lt q hq
  · rintro q (hq | hq)
    · exact .inl hq
    · exact (hm.new q hq).imp (h5 q) id
end
def duo (U V : Uno) : Duo where
  L := pairL U.L V.L
  ptr i := if i = 0 then U.ptr else V.ptr
  rd s i n := if i = 0 then U.rd s.1 n else V.rd s.2 n
  wr s i n x := if i = 0 then ((U.wr s.1 n x).1, ((U.wr s.1 n x).2, s.2)) else ((V.wr s.2 n x).1, (s.1, (V.wr s.2 n x).2))
  fl s i := if i = 0 then ((U.fl s.1).1, ((U.fl s.1).2, s.2)) else ((V.fl s.2).1, (s.1, (V.fl s.2).2))
  len s i := if i = 0 then U.len s.1 else V.len s.2
  most s := max (U.most s.1) (V.most s.2)
  len_le {w s F i} h hi := by
    obtain ⟨F1, F2, h1, h2, _⟩ := h
    rcases (show i = 0 ∨ i = 1 by omega) with rfl | rfl
    · exact U.len_le h1
    · exact V.len_le h2
  rd_len {w s F i n} h hi := by
    obtain ⟨F1, F2, h1, h2, _⟩ := h
    rcases (show i = 0 ∨ i = 1 by omega) with rfl | rfl
    · exact U.rd_len h1
    · exact V.rd_len h2
  wr_most {s i n x} hi := by
    have h1 := U.wr_most (s := s.1) (n := n) (x := x)
    have h2 := V.wr_most (s := s.2) (n := n) (x := x)
    rcases (show i = 0 ∨ i = 1 by omega) with rfl | rfl
    · show max (U.most (U.wr s.1 n x).2) (V.most s.2) ≤ max (U.most s.1) (V.most s.2) + 1; omega
    · show max (U.most s.1) (V.most (V.wr s.2 n x).2) ≤ max (U.most s.1) (V.most s.2) + 1; omega
  fl_most {s i} hi := by
    have h1 := U.fl_most (s := s.1)
    have h2 := V.fl_most (s := s.2)
    rcases (show i = 0 ∨ i = 1 by omega) with rfl | rfl
    · show max (U.most (U.fl s.1).2) (V.most s.2) ≤ max (U.most s.1) (V.most s.2); omega
    · show max (U.most s.1) (V.most (V.fl s.2).2) ≤ max (U.most s.1) (V.most s.2); omega
  crd {w s F i} h hi n := by
    obtain ⟨F1, F2, h1, h2, _⟩ := h
    rcases (show i = 0 ∨ i = 1 by omega) with rfl | rfl
    · exact U.crd h1 n
    · exact V.crd h2 n
  cwr {w s F i} h hi hm n x hx := by
    rcases (show i = 0 ∨ i = 1 by omega) with rfl | rfl
    · obtain ⟨F1, h1, hl⟩ := pair_fst h
      exact (U.cwr h1 (Nat.lt_of_le_of_lt (Nat.le_max_left _ _) hm) n x hx).mono fun _ _ hr => hl hr
    · obtain ⟨F1, h1, hl⟩ := pair_snd h
      exact (V.cwr h1 (Nat.lt_of_le_of_lt (Nat.le_max_right _ _) hm) n x hx).mono fun _ _ hr => hl hr
  cfl {w s F i} h hi := by
    rcases (show i = 0 ∨ i = 1 by omega) with rfl | rfl
    · obtain ⟨F1, h1, hl⟩ := pair_fst h
      exact (U.cfl h1).mono fun _ _ hr => hl hr
    · obtain ⟨F1, h1, hl⟩ := pair_snd h
      exact (V.cfl h1).mono fun _ _ hr => hl hr
  clen {w s F i} h hi := by
    obtain ⟨F1, F2, h1, h2, _⟩ := h
    rcases (show i = 0 ∨ i = 1 by omega) with rfl | rfl
    · exact U.clen h1
    · exact V.clen h2
end Go.Proofs.Ythadomboiockhaa.Mi
/-
  A byte that rots, twice. No program.
-/
namespace Go.Proofs.Ythadomboiockhaa.Kd
theorem rotS_get {s : List UInt8} {a j : Nat} {x : UInt8} (hj : j < s.length) : (rotS s a x).getD j 0 = if j = a then s.getD j 0 ^^^ x else s.getD j 0 := by
  unfold rotS
  rw [List.getD_eq_getElem?_getD, List.getElem?_set]
  by_cases h : a = j
  · subst h; rw [if_pos rfl, if_pos hj, if_pos rfl]; rfl
  · rw [if_neg h, if_neg (fun e => h e.symm), List.getD_eq_getElem?_getD]
theorem rotL_get {st : List (List UInt8)} {n a i : Nat} {x : UInt8} (hi : i < st.length) : (rotL st n a x).getD i zeroS = if i = n then rotS (st.getD i zeroS) a x else st.getD i zeroS := by
  unfold rotL
  rw [List.getD_eq_getElem?_getD, List.getElem?_set]
  by_cases h : n = i
  · subst h; rw [if_pos rfl, if_pos hi, if_pos rfl]; rfl
  · rw [if_neg h, if_neg (fun e => h e.symm), List.getD_eq_getElem?_getD]
theorem rotS_back (s : List UInt8) (a : Nat) (x : UInt8) (ha : a < s.length) : rotS (rotS s a x) a x = s := by
  unfold rotS
  rw [List.set_set]
  have h1 : (s.set a (s.getD a 0 ^^^ x)).getD a 0 = s.getD a 0 ^^^ x := by
    rw [List.getD_eq_getElem?_getD, List.getElem?_set, if_pos rfl, if_pos ha]; rfl
  rw [h1, UInt8.xor_assoc, UInt8.xor_self, UInt8.xor_zero, List.getD_eq_getElem?_getD, List.getElem?_eq_getElem ha]
  exact List.set_getElem_self ..
theorem rotL_back (st : List (List UInt8)) (n a : Nat) (x : UInt8) (hn : n < st.length) (ha : a < (st.getD n zeroS).length) : rotL (rotL st n a x) n a x = st := by
  have h1 : (rotL st n a x).getD n zeroS = rotS (st.getD n zeroS) a x := by rw [rotL_get hn, if_pos rfl]
  rw [rotL, h1, rotS_back _ _ _ ha]
  unfold rotL
  rw [List.set_set, List.getD_eq_getElem?_getD, List.getElem?_eq_getElem hn]
  exact List.set_getElem_self ..
variable {S : Sy} {k : Nat} {i a : Int} {x : UInt8}
theorem rot_p : (S.rot k i a x).p = S.p := by unfold Sy.rot; split <;> rfl
theorem rot_len : (S.rot k i a x).ds.length = S.ds.length := by unfold Sy.rot; split; exact len_put _; rfl
/-- What is stable behind it. -/
theorem rot_at (hk : k < S.ds.length) : ((S.rot k i a x).at k).st = if hasByte (S.at k).st.length i a then rotL (S.at k).st i.toNat a.toNat x else (S.at k).st := by
  unfold Sy.rot
  split
  · rw [at_put _ hk, if_pos rfl]; rfl
  · rfl
theorem rot_at_len (hk : k < S.ds.length) : ((S.rot k i a x).at k).st.length = (S.at k).st.length := by
  rw [rot_at hk]; split
  · exact rotL_length
  · rfl
theorem hasByte_iff {n : Nat} {i a : Int} : hasByte n i a = true ↔ 0 ≤ i ∧ i < (n : Int) ∧ 0 ≤ a ∧ a < 128 := by
  unfold hasByte; simp only [Bool.and_eq_true, decide_eq_true_eq, and_assoc]
/-- Twice: as it was. -/
theorem rot_twice (hk : k < S.ds.length) (h3 : ∀ s ∈ (S.at k).st, s.length = 128) : (((S.rot k i a x).rot k i a x).at k).st = (S.at k).st := by
  rw [rot_at (by rw [rot_len]; exact hk), rot_at_len hk, rot_at hk]
  by_cases h : hasByte (S.at k).st.length i a = true
  · rw [if_pos h, if_pos h]
    have := hasByte_iff.1 h
    exact rotL_back _ _ _ _ (by omega) (by rw [getD_ok h3]; omega)
  · rw [if_neg h, if_neg h]
/-- What stands at a place behind it. -/
theorem rot_byte (hk : k < S.ds.length) (h3 : ∀ s ∈ (S.at k).st, s.length = 128) {u v : Nat} (hu : u < (S.at k).st.length) (hv : v < 128) :
    ((((S.rot k i a x).at k).st.getD u zeroS).getD v 0) = if hasByte (S.at k).st.length i a = true ∧ (u : Int) = i ∧ (v : Int) = a then ((S.at k).st.getD u zeroS).getD v 0 ^^^ x else ((S.at k).st.getD u zeroS).getD v 0 := by
  rw [rot_at hk]
  by_cases h : hasByte (S.at k).st.length i a = true
  · have hb := hasByte_iff.1 h
    rw [if_pos h, rotL_get hu]
    by_cases h1 : u = i.toNat
    · rw [if_pos h1, rotS_get (by rw [getD_ok h3]; exact hv)]
      by_cases h2 : v = a.toNat
      · rw [if_pos h2, if_pos ⟨h, by omega, by omega⟩]
      · rw [if_neg h2, if_neg (fun e => h2 (by omega))]
    · rw [if_neg h1, if_neg (fun e => h1 (by omega))]
  · rw [if_neg h, if_neg (fun e => h e.1)]
end Go.Proofs.Ythadomboiockhaa.Kd
/-
  What is seen of a device whose power never fails: its sectors as they are read, and whether it is out. No program.
-/
namespace Go.Proofs.Ythadomboiockhaa.Mi
open Kd
theorem count_plain {S : Sy} (h : S.p = ⟨false, -1⟩) : S.count = S := by
  obtain ⟨P, ds⟩ := S
  replace h : P = ⟨false, -1⟩ := h
  subst h; rfl
/-- A device's sectors, as it reads them, whether it is out, and at most how many writes wait. -/
structure See (S : Sy) (L : List (List UInt8)) (g : Bool) (m : Nat) : Prop where
  ds : S.ds.length = 1
  p : S.p = ⟨false, -1⟩
  len : (S.at 0).st.length = L.length
  now : ∀ k, k < L.length → (S.at 0).now k = L.getD k zeroS
  gone : (S.at 0).gone = g
  lies : (S.at 0).lies = false
  few : (S.at 0).wt.length ≤ m
section
variable {S : Sy} {L : List (List UInt8)} {g : Bool} {m : Nat}
theorem See.more (h : See S L g m) {m' : Nat} (hm : m ≤ m') : See S L g m' := ⟨h.ds, h.p, h.len, h.now, h.gone, h.lies, Nat.le_trans h.few hm⟩
theorem see_new (n : Nat) (hn : n ≤ 4096) : See (S0.new (n : Int)) (List.replicate n zeroS) false 0 := by
  have hc : clampN (n : Int) = n := by unfold clampN; omega
  have h1 : (S0.new (n : Int)).at 0 = newDv n := by rw [Sy.new, hc]; rfl
  refine ⟨rfl, rfl, by rw [h1, List.length_replicate]; exact List.length_replicate, fun k hk => ?_, by rw [h1]; rfl, by rw [h1]; rfl, by rw [h1]; exact Nat.le_refl _⟩
  rw [h1]; rfl
theorem See.refuse (h : See S L g m) (n : Int) : refuseN S.p (S.at 0) n = if g then 13 else if n < 0 ∨ (L.length : Int) ≤ n then 2 else 0 := by
  rw [refuseN, h.p, h.gone, h.len]; rfl
theorem See.read (h : See S L g m) (n : Int) : readS S.p (S.at 0) n = if (g = false ∧ 0 ≤ n ∧ n < (L.length : Int)) then L.getD n.toNat zeroS else zeroS := by
  rw [readS, h.refuse]
  cases g with
  | true => simp
  | false =>
    by_cases hc : n < 0 ∨ (L.length : Int) ≤ n
    · rw [if_neg (show ¬ ((if false = true then (13 : Int) else if n < 0 ∨ (L.length : Int) ≤ n then 2 else 0) = 0) by rw [if_neg (by simp), if_pos hc]; omega), if_neg (fun h => by omega)]
    · rw [if_pos (show (if false = true then (13 : Int) else if n < 0 ∨ (L.length : Int) ≤ n then 2 else 0) = 0 by rw [if_neg (by simp), if_neg hc]), if_pos ⟨rfl, by omega, by omega⟩]
      exact h.now _ (by omega)
theorem See.write_no (h : See S L g m) {n : Int} {x : List UInt8} (hn : ¬ (g = false ∧ 0 ≤ n ∧ n < (L.length : Int))) : S.write 0 n x = (if g then 13 else 2, S) := by
  have hr : refuseN S.p (S.at 0) n = if g then 13 else 2 := by
    rw [h.refuse]
    cases g with
    | true => rfl
    | false =>
      have hc : n < 0 ∨ (L.length : Int) ≤ n := by
        by_cases h1 : n < 0
        · exact .inl h1
        · by_cases h2 : n < (L.length : Int)
          · exact absurd ⟨rfl, by omega, h2⟩ hn
          · exact .inr (by omega)
      show (if false = true then (13 : Int) else if n < 0 ∨ (L.length : Int) ≤ n then 2 else 0) = 2
      rw [if_neg (by simp), if_pos hc]
  rw [Kd.write_no (by rw [hr]; cases g <;> simp), hr]
theorem See.write_yes (h : See S L g m) {k : Nat} {x : List UInt8} (hg : g = false) (hk : k < L.length) : (S.write 0 (k : Int) x).1 = 0 ∧ See (S.write 0 (k : Int) x).2 (L.set k x) g (m + 1) := by
  have hr : refuseN S.p (S.at 0) (k : Int) = 0 := by rw [h.refuse, hg, if_neg (by simp), if_neg (by omega)]
  have hw := Kd.write_yes (s := x) hr
  have hp : S.p.fails = false := by rw [h.p]; rfl
  have hd0 : 0 < S.ds.length := by rw [h.ds]; omega
  have hpp : (S.put 0 ((S.at 0).add k x)).p = ⟨false, -1⟩ := h.p
  rw [hp, count_plain hpp] at hw
  rw [hw]
  have ha : (S.put 0 ((S.at 0).add k x)).at 0 = (S.at 0).add k x := by rw [at_put _ hd0, if_pos rfl]
  refine ⟨rfl, by rw [len_put]; exact h.ds, hpp, by rw [ha, List.length_set]; exact h.len, fun j hj => ?_, by rw [ha]; exact h.gone, by rw [ha]; exact h.lies, ?_⟩
  · rw [List.length_set] at hj
    rw [ha, set_getD _ _ _ _ hj]
    show nowL (S.at 0).st ((S.at 0).wt ++ [(k, x)]) j = _
    rw [now_snoc]
    split
    · rfl
    · exact h.now j hj
  · rw [ha]
    show ((S.at 0).wt ++ [(k, x)]).length ≤ m + 1
    rw [List.length_append]; have := h.few; simp; exact this
theorem See.flush_no (h : See S L g m) (hg : g = true) : S.flush 0 = (13, S) := by
  unfold Sy.flush; dsimp only; rw [h.p, h.gone, hg]; rfl
theorem See.flush_yes (h : See S L g m) (hg : g = false) : (S.flush 0).1 = 0 ∧ See (S.flush 0).2 L g 0 := by
  have hd0 : 0 < S.ds.length := by rw [h.ds]; omega
  have hp : S.p.fails = false := by rw [h.p]; rfl
  have hw : S.flush 0 = (0, S.put 0 { S.at 0 with st := flushL (S.at 0).st (S.at 0).wt, wt := [] }) := by
    unfold Sy.flush; dsimp only
    rw [if_neg (by rw [h.p, h.gone, hg]; simp), hp, if_neg (by simp), h.lies, if_neg (by simp), count_plain h.p]
  have ha : (S.put 0 { S.at 0 with st := flushL (S.at 0).st (S.at 0).wt, wt := [] }).at 0 = { S.at 0 with st := flushL (S.at 0).st (S.at 0).wt, wt := [] } := by rw [at_put _ hd0, if_pos rfl]
  rw [hw]
  refine ⟨rfl, by rw [len_put]; exact h.ds, h.p, by rw [ha]; exact (flush_length _ _).trans h.len, fun j hj => ?_, by rw [ha]; exact h.gone, by rw [ha]; exact h.lies, by rw [ha]; exact Nat.le_refl _⟩
  rw [ha]
  show nowL (flushL (S.at 0).st (S.at 0).wt) [] j = _
  rw [Kd.flush_nil, flush_get _ _ _ (by rw [h.len]; exact hj)]
  exact h.now j hj
theorem See.dry (h : See S L g 0) : (S.at 0).wt = [] := List.length_eq_zero_iff.1 (Nat.le_zero.1 h.few)
theorem See.stable (h : See S L g 0) : (S.at 0).st = L := by
  apply List.ext_getElem?
  intro k
  by_cases hk : k < L.length
  · have h1 := h.now k hk
    rw [Dv.now, h.dry, Kd.flush_nil, List.getD_eq_getElem?_getD, List.getD_eq_getElem?_getD, List.getElem?_eq_getElem (by rw [h.len]; exact hk), List.getElem?_eq_getElem hk] at h1
    rw [List.getElem?_eq_getElem (by rw [h.len]; exact hk), List.getElem?_eq_getElem hk]
    exact congrArg some h1
  · rw [List.getElem?_eq_none (by rw [h.len]; omega), List.getElem?_eq_none (by omega)]
theorem See.out (h : See S L g 0) (on : Bool) : See (S.put 0 ((S.at 0).out on)) L on 0 := by
  have hd0 : 0 < S.ds.length := by rw [h.ds]; omega
  have ha : (S.put 0 ((S.at 0).out on)).at 0 = (S.at 0).out on := by rw [at_put _ hd0, if_pos rfl]
  have hw : ((S.at 0).out on).wt = [] := by show (if on then [] else (S.at 0).wt) = []; rw [h.dry]; split <;> rfl
  refine ⟨by rw [len_put]; exact h.ds, h.p, by rw [ha]; exact h.len, fun j hj => ?_, by rw [ha]; rfl, by rw [ha]; exact h.lies, by rw [ha, hw]; exact Nat.le_refl _⟩
  rw [ha, Dv.now, hw]
  show nowL (S.at 0).st [] j = _
  rw [← h.now j hj, Dv.now, h.dry]
end
end Go.Proofs.Ythadomboiockhaa.Mi
/-
  Two devices of one power that never fails: as they are laid, and what is seen of each.
-/
namespace Go.Proofs.Ythadomboiockhaa.Mu
open Go.RowKit Kd Mi
def most2 (S : Sy) : Nat := max (S.at 0).wt.length (S.at 1).wt.length
theorem few_two {S : Sy} (h : S.ds.length = 2) (j : Nat) : (S.at j).wt.length ≤ most2 S := by
  rcases j with _ | _ | j
  · exact Nat.le_max_left _ _
  · exact Nat.le_max_right _ _
  · rw [at_far (by omega)]; exact Nat.zero_le _
def mostD (S : Sy) : Nat := if S.ds.length = 2 then most2 S else 0
theorem mostD_write (S : Sy) (i : Nat) (n : Int) (x : List UInt8) : mostD (S.write i n x).2 ≤ mostD S + 1 := by
  unfold mostD
  rw [write_dsM]
  split
  · rename_i h
    exact Nat.max_le.2 ⟨write_wtM S i n x _ (few_two h) 0, write_wtM S i n x _ (few_two h) 1⟩
  · exact Nat.zero_le _
theorem mostD_flush (S : Sy) (i : Nat) : mostD (S.flush i).2 ≤ mostD S := by
  unfold mostD
  rw [flush_dsM]
  split
  · rename_i h
    exact Nat.max_le.2 ⟨flush_wtM S i _ (few_two h) 0, flush_wtM S i _ (few_two h) 1⟩
  · exact Nat.le_refl _
theorem ptr2 {g1 g2 i : Nat} (hi : i < 2) : (if i = 0 then some (⟨g1, 0, none⟩ : Addr) else some ⟨g2, 0, none⟩) = some ⟨[g1, g2].getD i 0, 0, none⟩ := by
  rcases (show i = 0 ∨ i = 1 by omega) with rfl | rfl <;> rfl
/-- Two devices of one power. -/
def one (p g1 g2 : Nat) : Duo where
  L := SysL p [g1, g2] 2
  ptr i := if i = 0 then some ⟨g1, 0, none⟩ else some ⟨g2, 0, none⟩
  rd S i n := (refuseN S.p (S.at i) n, readS S.p (S.at i) n)
  wr S i n x := S.write i n x
  fl S i := S.flush i
  len S i := (S.at i).st.length
  most S := mostD S
  len_le {w s F i} h hi := (sys_okM h.1 (k := i) (by rw [h.2]; exact hi)).len
  rd_len {w s F i n} h hi := readS_length (sys_okM h.1 (k := i) (by rw [h.2]; exact hi)) _
  wr_most {S i n x} _ := mostD_write S i n x
  fl_most {S i} _ := mostD_flush S i
  crd {w s F i} h hi n := by rw [ptr2 hi]; exact dread_any h.1 i (by rw [h.2]; exact hi) n
  cwr {w S F i} h hi hm n x hx := by
    rw [ptr2 hi]
    exact (write_any h.1 i (by rw [h.2]; exact hi) n x hx (by
      have h1 : mostD S = most2 S := if_pos h.2
      have h2 := few_two h.2 i
      omega)).mono fun _ _ hr => RetS.reta ((write_dsM S i n x).trans h.2) hr
  cfl {w S F i} h hi := by
    rw [ptr2 hi]
    exact (flush_any h.1 i (by rw [h.2]; exact hi)).mono fun _ _ hr => RetS.reta ((flush_dsM S i).trans h.2) hr
  clen {w S F i} h hi := by
    rw [ptr2 hi]
    exact (len_sys h.1 i (by rw [h.2]; exact hi)).mono fun _ _ hr => by
      obtain ⟨rfl, rfl⟩ := hr
      exact ⟨rfl, Below.refl _ _⟩
/-- A device's sectors, as it reads them, whether it is out, and at most how many writes wait. -/
structure See (S : Sy) (i : Nat) (L : List (List UInt8)) (g : Bool) (m : Nat) : Prop where
  ds : S.ds.length = 2
  p : S.p = ⟨false, -1⟩
  lt : i < 2
  len : (S.at i).st.length = L.length
  now : ∀ k, k < L.length → (S.at i).now k = L.getD k zeroS
  gone : (S.at i).gone = g
  lies : (S.at i).lies = false
  few : (S.at i).wt.length ≤ m
section
variable {S : Sy} {i j : Nat} {L L' : List (List UInt8)} {g g' : Bool} {m m' : Nat}
theorem See.more (h : See S i L g m) {m' : Nat} (hm : m ≤ m') : See S i L g m' := ⟨h.ds, h.p, h.lt, h.len, h.now, h.gone, h.lies, Nat.le_trans h.few hm⟩
theorem See.put (h : See S j L' g' m') (d : Dv) (hij : j ≠ i) : See (S.put i d) j L' g' m' := by
  have ha : (S.put i d).at j = S.at j := by
    show (S.ds.set i d).getD j noDv = S.ds.getD j noDv
    rw [List.getD_eq_getElem?_getD, List.getD_eq_getElem?_getD, List.getElem?_set, if_neg (fun e => hij e.symm)]
  exact ⟨by rw [len_put]; exact h.ds, h.p, h.lt, by rw [ha]; exact h.len, by rw [ha]; exact h.now, by rw [ha]; exact h.gone, by rw [ha]; exact h.lies, by rw [ha]; exact h.few⟩
theorem see_new (n : Nat) (hn : n ≤ 4096) : See ((S0.new (n : Int)).new (n : Int)) 0 (List.replicate n zeroS) false 0 ∧ See ((S0.new (n : Int)).new (n : Int)) 1 (List.replicate n zeroS) false 0 := by
  have hc : clampN (n : Int) = n := by unfold clampN; omega
  have h1 : ((S0.new (n : Int)).new (n : Int)).at 0 = newDv n := by rw [Sy.new, Sy.new, hc]; rfl
  have h2 : ((S0.new (n : Int)).new (n : Int)).at 1 = newDv n := by rw [Sy.new, Sy.new, hc]; rfl
  refine ⟨⟨rfl, rfl, by omega, by rw [h1, List.length_replicate]; exact List.length_replicate, fun k hk => ?_, by rw [h1]; rfl, by rw [h1]; rfl, by rw [h1]; exact Nat.le_refl _⟩, ⟨rfl, rfl, by omega, by rw [h2, List.length_replicate]; exact List.length_replicate, fun k hk => ?_, by rw [h2]; rfl, by rw [h2]; rfl, by rw [h2]; exact Nat.le_refl _⟩⟩
  · rw [h1]; rfl
  · rw [h2]; rfl
theorem See.refuse (h : See S i L g m) (n : Int) : refuseN S.p (S.at i) n = if g then 13 else if n < 0 ∨ (L.length : Int) ≤ n then 2 else 0 := by
  rw [refuseN, h.p, h.gone, h.len]; rfl
theorem See.read (h : See S i L g m) (n : Int) : readS S.p (S.at i) n = if (g = false ∧ 0 ≤ n ∧ n < (L.length : Int)) then L.getD n.toNat zeroS else zeroS := by
  rw [readS, h.refuse]
  cases g with
  | true => simp
  | false =>
    by_cases hc : n < 0 ∨ (L.length : Int) ≤ n
    · rw [if_neg (show ¬ ((if false = true then (13 : Int) else if n < 0 ∨ (L.length : Int) ≤ n then 2 else 0) = 0) by rw [if_neg (by simp), if_pos hc]; omega), if_neg (fun h => by omega)]
    · rw [if_pos (show (if false = true then (13 : Int) else if n < 0 ∨ (L.length : Int) ≤ n then 2 else 0) = 0 by rw [if_neg (by simp), if_neg hc]), if_pos ⟨rfl, by omega, by omega⟩]
      exact h.now _ (by omega)
theorem See.write_no (h : See S i L g m) {n : Int} {x : List UInt8} (hn : ¬ (g = false ∧ 0 ≤ n ∧ n < (L.length : Int))) : S.write i n x = (if g then 13 else 2, S) := by
  have hr : refuseN S.p (S.at i) n = if g then 13 else 2 := by
    rw [h.refuse]
    cases g with
    | true => rfl
    | false =>
      have hc : n < 0 ∨ (L.length : Int) ≤ n := by
        by_cases h1 : n < 0
        · exact .inl h1
        · by_cases h2 : n < (L.length : Int)
          · exact absurd ⟨rfl, by omega, h2⟩ hn
          · exact .inr (by omega)
      show (if false = true then (13 : Int) else if n < 0 ∨ (L.length : Int) ≤ n then 2 else 0) = 2
      rw [if_neg (by simp), if_pos hc]
  rw [Kd.write_no (by rw [hr]; cases g <;> simp), hr]
theorem See.write_yes (h : See S i L g m) {k : Nat} {x : List UInt8} (hg : g = false) (hk : k < L.length) :
    (S.write i (k : Int) x).1 = 0 ∧ See (S.write i (k : Int) x).2 i (L.set k x) g (m + 1) ∧ ∀ {j L' g' m'}, j ≠ i → See S j L' g' m' → See (S.write i (k : Int) x).2 j L' g' m' := by
  have hr : refuseN S.p (S.at i) (k : Int) = 0 := by rw [h.refuse, hg, if_neg (by simp), if_neg (by omega)]
  have hw := Kd.write_yes (s := x) hr
  have hp : S.p.fails = false := by rw [h.p]; rfl
  have hd0 : i < S.ds.length := by rw [h.ds]; exact h.lt
  have hpp : (S.put i ((S.at i).add k x)).p = ⟨false, -1⟩ := h.p
  rw [hp, count_plain hpp] at hw
  rw [hw]
  have ha : (S.put i ((S.at i).add k x)).at i = (S.at i).add k x := by rw [at_put _ hd0, if_pos rfl]
  refine ⟨rfl, ⟨by rw [len_put]; exact h.ds, hpp, h.lt, by rw [ha, List.length_set]; exact h.len, fun j hj => ?_, by rw [ha]; exact h.gone, by rw [ha]; exact h.lies, ?_⟩, fun hne hj => hj.put _ hne⟩
  · rw [List.length_set] at hj
    rw [ha, set_getD _ _ _ _ hj]
    show nowL (S.at i).st ((S.at i).wt ++ [(k, x)]) j = _
    rw [now_snoc]
    split
    · rfl
    · exact h.now j hj
  · rw [ha]
    show ((S.at i).wt ++ [(k, x)]).length ≤ m + 1
    rw [List.length_append]; have := h.few; simp; exact this
theorem See.flush_no (h : See S i L g m) (hg : g = true) : S.flush i = (13, S) := by
  unfold Sy.flush; dsimp only; rw [h.p, h.gone, hg]; rfl
theorem See.flush_yes (h : See S i L g m) (hg : g = false) : (S.flush i).1 = 0 ∧ See (S.flush i).2 i L g 0 ∧ ∀ {j L' g' m'}, j ≠ i → See S j L' g' m' → See (S.flush i).2 j L' g' m' := by
  have hd0 : i < S.ds.length := by rw [h.ds]; exact h.lt
  have hp : S.p.fails = false := by rw [h.p]; rfl
  have hw : S.flush i = (0, S.put i { S.at i with st := flushL (S.at i).st (S.at i).wt, wt := [] }) := by
    unfold Sy.flush; dsimp only
    rw [if_neg (by rw [h.p, h.gone, hg]; simp), hp, if_neg (by simp), h.lies, if_neg (by simp), count_plain h.p]
  have ha : (S.put i { S.at i with st := flushL (S.at i).st (S.at i).wt, wt := [] }).at i = { S.at i with st := flushL (S.at i).st (S.at i).wt, wt := [] } := by rw [at_put _ hd0, if_pos rfl]
  rw [hw]
  refine ⟨rfl, ⟨by rw [len_put]; exact h.ds, h.p, h.lt, by rw [ha]; exact (flush_length _ _).trans h.len, fun j hj => ?_, by rw [ha]; exact h.gone, by rw [ha]; exact h.lies, by rw [ha]; exact Nat.le_refl _⟩, fun hne hj => hj.put _ hne⟩
  rw [ha]
  show nowL (flushL (S.at i).st (S.at i).wt) [] j = _
  rw [Kd.flush_nil, flush_get _ _ _ (by rw [h.len]; exact hj)]
  exact h.now j hj
theorem See.dry (h : See S i L g 0) : (S.at i).wt = [] := List.length_eq_zero_iff.1 (Nat.le_zero.1 h.few)
theorem See.stable (h : See S i L g 0) : (S.at i).st = L := by
  apply List.ext_getElem?
  intro k
  by_cases hk : k < L.length
  · have h1 := h.now k hk
    rw [Dv.now, h.dry, Kd.flush_nil, List.getD_eq_getElem?_getD, List.getD_eq_getElem?_getD, List.getElem?_eq_getElem (by rw [h.len]; exact hk), List.getElem?_eq_getElem hk] at h1
    rw [List.getElem?_eq_getElem (by rw [h.len]; exact hk), List.getElem?_eq_getElem hk]
    exact congrArg some h1
  · rw [List.getElem?_eq_none (by rw [h.len]; omega), List.getElem?_eq_none (by omega)]
theorem See.out (h : See S i L g 0) (on : Bool) : See (S.put i ((S.at i).out on)) i L on 0 := by
  have hd0 : i < S.ds.length := by rw [h.ds]; exact h.lt
  have ha : (S.put i ((S.at i).out on)).at i = (S.at i).out on := by rw [at_put _ hd0, if_pos rfl]
  have hw : ((S.at i).out on).wt = [] := by show (if on then [] else (S.at i).wt) = []; rw [h.dry]; split <;> rfl
  refine ⟨by rw [len_put]; exact h.ds, h.p, h.lt, by rw [ha]; exact h.len, fun j hj => ?_, by rw [ha]; rfl, by rw [ha]; exact h.lies, by rw [ha, hw]; exact Nat.le_refl _⟩
  rw [ha, Dv.now, hw]
  show nowL (S.at i).st [] j = _
  rw [← h.now j hj, Dv.now, h.dry]
theorem See.rot (h : See S i L g 0) (n a : Int) (b : UInt8) : See (S.rot i n a b) i (if hasByte L.length n a then rotL L n.toNat a.toNat b else L) g 0 := by
  have hl : (S.at i).st.length = L.length := h.len
  rw [Sy.rot, hl]
  split
  · have hd0 : i < S.ds.length := by rw [h.ds]; exact h.lt
    have ha : (S.put i ((S.at i).rot n.toNat a.toNat b)).at i = (S.at i).rot n.toNat a.toNat b := by rw [at_put _ hd0, if_pos rfl]
    refine ⟨by rw [len_put]; exact h.ds, h.p, h.lt, ?_, fun j hj => ?_, by rw [ha]; exact h.gone, by rw [ha]; exact h.lies, by rw [ha]; exact h.few⟩
    · rw [ha, ← h.stable]; rfl
    · rw [ha, Dv.now]
      show nowL (rotL (S.at i).st n.toNat a.toNat b) (S.at i).wt j = _
      rw [h.dry, Kd.flush_nil, h.stable]
  · exact h
theorem See.rot_other (h : See S j L' g' m') (n a : Int) (b : UInt8) (hij : j ≠ i) : See (S.rot i n a b) j L' g' m' := by
  rw [Sy.rot]; split
  · exact h.put _ hij
  · exact h
end
end Go.Proofs.Ythadomboiockhaa.Mu
/-
  The contract of the mirror's Heal.
-/
namespace Go.Proofs.Ythadomboiockhaa.Mi
open Go.RowKit Kd
attribute [local go_sem ↓] Go.wp_at_zero Go.wp_at_succ
section
variable {C : Duo} {G : Gd} {g : Nat} {w : World} {s : Mr C} {F : Nat → Prop}
def Mr.healTo (s : Mr C) (i n : Nat) (x : List UInt8) : (Int × Int) × Mr C := (if (s.mend i n x).1 = 0 then (1, 0) else (0, (s.mend i n x).1), (s.mend i n x).2)
/-- What Heal tells, and makes of a mirror. -/
def Mr.heal (G : Gd) (s : Mr C) (n : Int) : (Int × Int) × Mr C :=
  if has s n then
    if C.there s.d 0 && C.there s.d 1 then
      (if right C G s 0 n.toNat then
        (if right C G s 1 n.toNat then (if rightV C G s 0 n.toNat = rightV C G s 1 n.toNat then ((0, 0), s) else s.healTo 1 n.toNat (rightV C G s 0 n.toNat))
         else s.healTo 1 n.toNat (rightV C G s 0 n.toNat))
       else if right C G s 1 n.toNat then s.healTo 0 n.toNat (rightV C G s 1 n.toNat) else ((2, 0), s))
    else ((0, 13), s)
  else ((0, 2), s)
def tup2 (x : Int × Int) : Value := .tuple #[.int .i64 x.1, .int .i64 x.2]
set_option maxRecDepth 100000 in
set_option maxHeartbeats 3200000 in
theorem heal_no {p : Option Addr} {n : Int} (hc : Calls Try.prog 109 #[.pointer p, .int .i64 n] w (RetB (.bool false) w)) : Calls Try.prog 104 #[.pointer p, .int .i64 n] w (RetB (tup2 (0, 2)) w) := by
  have HC := Lib.hid hc
  clear hc
  go_enter Try.func104, Try.ntmps104
  go_wp2_with fail
  refine HC.out.mono ?_
  rintro e w1 ⟨rfl, bw⟩
  have B1 := Lib.hid bw
  clear bw
  go_wp2_with fail
  exact bodyPost_ret (results_tmp2 Try.results104 _ _ _) rfl ⟨rfl, B1.out⟩
theorem heal_nil (n : Int) : Calls Try.prog 104 #[.pointer none, .int .i64 n] w (RetB (tup2 (0, 2)) w) := heal_no (has_nil w n)
set_option maxRecDepth 100000 in
set_option maxHeartbeats 12800000 in
theorem heal_any (h : (ML C G g).At w s F) {k : Nat} (hk : s.ok k) (n : Int) (hm : C.most s.d < 1000000) : Calls Try.prog 104 #[.pointer (some ⟨g, 0, none⟩), .int .i64 n] w (RetA (ML C G g) (tup2 (s.heal G n).1) (s.heal G n).2 F w) := by
  cases hh : has s n with
  | false =>
    rw [Mr.heal, hh, if_neg (by simp)]
    have := has_any h n
    rw [hh] at this
    exact (heal_no this).mono fun _ _ hr => RetB.reta h hr
  | true =>
    obtain ⟨j, rfl⟩ : ∃ j : Nat, n = (j : Int) := ⟨n.toNat, by rw [has] at hh; simp at hh; omega⟩
    have hj : j < k := by rw [has] at hh; simp at hh; rw [← hk.1]; exact hh
    have HJ := Lib.hid (show ∀ i, j < (s.st i).length from fun i => by rw [hk.st]; exact hj)
    obtain ⟨z, hz0⟩ : ∃ z : List UInt8, z = zeroS := ⟨_, rfl⟩
    have hz : ∀ W, (zeroValue 38).run Try.prog W = .ok (.agg (bva z)) W := fun _ => by rw [hz0]; kernel_rfl
    have HZ3 := Lib.hid (show z.length = 128 by rw [hz0]; exact zeroS_length)
    have hcc := has_any h (j : Int)
    rw [hh] at hcc
    have HC := Lib.hid hcc
    have M0 := Lib.hid (Mv.start h)
    obtain ⟨RV, hRV⟩ : ∃ RV, RV = s.heal G (j : Int) := ⟨_, rfl⟩
    rw [← hRV]
    rw [Mr.heal, hh, if_pos rfl, Int.toNat_natCast] at hRV
    obtain ⟨tt, htt⟩ : ∃ tt, tt = (C.there s.d 0 && C.there s.d 1) := ⟨_, rfl⟩
    have HW := Lib.hid (show ∀ w F, (ML C G g).At w s F → Calls Try.prog 122 #[.pointer (some ⟨g, 0, none⟩)] w (RetA (ML C G g) (.bool tt) s F w) from fun w F h => by rw [htt]; exact whole_any h)
    rw [← htt] at hRV
    obtain ⟨y0, hy0⟩ : ∃ y, y = rightV C G s 0 j := ⟨_, rfl⟩
    obtain ⟨y1, hy1⟩ : ∃ y, y = rightV C G s 1 j := ⟨_, rfl⟩
    obtain ⟨a, ha⟩ : ∃ a, a = right C G s 0 j := ⟨_, rfl⟩
    obtain ⟨b, hb⟩ : ∃ b, b = right C G s 1 j := ⟨_, rfl⟩
    have HR0 := Lib.hid (show ∀ w F, (ML C G g).At w s F → Calls Try.prog 112 #[.pointer (some ⟨g, 0, none⟩), .int .i64 0, .int .i64 j] w (RetB (.tuple #[.agg (bva y0), .bool a]) w) from fun w F h => by rw [hy0, ha]; exact right_any h (i := 0) (by omega) (HJ.out 0))
    have HR1 := Lib.hid (show ∀ w F, (ML C G g).At w s F → Calls Try.prog 112 #[.pointer (some ⟨g, 0, none⟩), .int .i64 1, .int .i64 j] w (RetB (.tuple #[.agg (bva y1), .bool b]) w) from fun w F h => by rw [hy1, hb]; exact right_any h (i := 1) (by omega) (HJ.out 1))
    have HY3 := Lib.hid (show y0.length = 128 by rw [hy0]; exact rightV_len h (by omega) j)
    have HY4 := Lib.hid (show y1.length = 128 by rw [hy1]; exact rightV_len h (by omega) j)
    have HIY : Hid ((Try.prog.info? 38).map (·.size) = some (bva y0).size) := by rw [bva_size, HY3.out]; exact info_sec
    have HIV : Hid ((Try.prog.info? 38).map (·.size) = some (bva y1).size) := by rw [bva_size, HY4.out]; exact info_sec
    rw [← hy0, ← hy1, ← ha, ← hb] at hRV
    have HRV := Lib.hid hRV
    have HM := Lib.hid hm
    clear hRV hz0 hcc hh hk hj h hm htt hy0 hy1 ha hb
    go_enter Try.func104, Try.ntmps104
    go_wp2_with fail
    refine HC.out.mono ?_
    rintro e w1 ⟨rfl, bw⟩
    have M1 := Lib.hid (M0.out.below bw)
    clear bw M0 HC
    go_wp2_with fail
    refine (HW.out _ _ M1.out.at_).mono ?_
    rintro e w2 ⟨rfl, F2, hm2⟩
    have M2 := Lib.hid (M1.out.trans hm2)
    clear hm2 M1 HW
    cases tt with
    | false =>
      have HEND := Lib.hid (show RV = ((0, 13), s) by rw [HRV.out, if_neg (by simp)])
      go_wp2_with fail
      exact bodyPost_ret (results_tmp2 Try.results104 _ _ _) rfl ⟨by rw [HEND.out]; rfl, F2, by rw [HEND.out]; exact M2.out⟩
    | true =>
      have HRV2 := Lib.hid (show RV = _ from by rw [HRV.out, if_pos rfl])
      clear HRV
      go_wp2_with fail
      refine (HR0.out _ _ M2.out.at_).mono ?_
      rintro e w3 ⟨rfl, bw⟩
      have M3 := Lib.hid (M2.out.below bw)
      clear bw M2 HR0
      go_wp2_with (show wpList _ _ _ ({ dst := none, op := .store 38 (.tmp 6) (.tmp 23), type := _, pos := _, after := _, guard := _ } :: _) _ _; apply Classical.byContradiction; intro hneg)
      refine hneg ?_
      clear hneg
      refine wpList_store_row rfl 38 (.tmp 6) (.tmp 23) rfl w3.heap.size (bva y0) rfl rfl 38 (bva z) (heap_alloc_new _ _) HIY.out (by rw [bva_size, bva_size, HY3.out, HZ3.out]) (bva_one _) ?_
      obtain ⟨w4, hw4⟩ : ∃ w4, w4 = (w3.alloc (.cells (bva z) 38)).setRow w3.heap.size (bva y0) := ⟨_, rfl⟩
      have hbw4 : Below w3.heap.size w3 w4 := by rw [hw4]; exact below_setRow ((Below.refl _ _).alloc (Nat.le_refl _) _) (Nat.le_refl _) _
      have BXw4 := Lib.hid (show Blk w4 w3.heap.size (bva y0) 38 from by rw [hw4]; exact setRow_heap _ _ _ _ _ _ (heap_alloc_new _ _))
      rw [← hw4]
      clear hw4
      have M4 := Lib.hid (M3.out.below hbw4)
      have X4 := Lib.hid (Bx.new M3.out BXw4.out (Nat.le_refl _))
      clear hbw4 M3 BXw4
      obtain ⟨b6, hb6⟩ : ∃ b6, b6 = w3.heap.size := ⟨_, rfl⟩
      rw [← hb6] at X4
      rw [← hb6]
      clear hb6
      go_wp2_with fail
      refine (HR1.out _ _ M4.out.at_).mono ?_
      rintro e w5 ⟨rfl, bw⟩
      have M5 := Lib.hid (M4.out.below bw)
      have X5 := Lib.hid (X4.out.below bw)
      clear bw M4 HR1 X4
      go_wp2_with (show wpList _ _ _ ({ dst := none, op := .store 38 (.tmp 8) (.tmp 29), type := _, pos := _, after := _, guard := _ } :: _) _ _; apply Classical.byContradiction; intro hneg)
      refine hneg ?_
      clear hneg
      refine wpList_store_row rfl 38 (.tmp 8) (.tmp 29) rfl w5.heap.size (bva y1) rfl rfl 38 (bva z) (heap_alloc_new _ _) HIV.out (by rw [bva_size, bva_size, HY4.out, HZ3.out]) (bva_one _) ?_
      obtain ⟨w6, hw6⟩ : ∃ w6, w6 = (w5.alloc (.cells (bva z) 38)).setRow w5.heap.size (bva y1) := ⟨_, rfl⟩
      have hbw6 : Below w5.heap.size w5 w6 := by rw [hw6]; exact below_setRow ((Below.refl _ _).alloc (Nat.le_refl _) _) (Nat.le_refl _) _
      have BXw6 := Lib.hid (show Blk w6 w5.heap.size (bva y1) 38 from by rw [hw6]; exact setRow_heap _ _ _ _ _ _ (heap_alloc_new _ _))
      rw [← hw6]
      clear hw6
      have M6 := Lib.hid (M5.out.below hbw6)
      have X6 := Lib.hid (X5.out.below hbw6)
      have Y6 := Lib.hid (Bx.new M5.out BXw6.out (Nat.le_refl _))
      clear hbw6 M5 BXw6 X5
      obtain ⟨b8, hb8⟩ : ∃ b8, b8 = w5.heap.size := ⟨_, rfl⟩
      rw [← hb8] at Y6
      rw [← hb8]
      clear hb8
      cases a
      · cases b
        · have HEND := Lib.hid (show RV = ((2, 0), s) by rw [HRV2.out, if_neg (by simp), if_neg (by simp)])
          go_wp2_with fail
          exact bodyPost_ret (results_tmp2 Try.results104 _ _ _) rfl ⟨by rw [HEND.out]; rfl, F2, by rw [HEND.out]; exact M6.out⟩
        · skip
          have HEND := Lib.hid (show RV = s.healTo 0 j y1 by rw [HRV2.out, if_neg (by simp), if_pos rfl])
          have HME := Lib.hid (mend_any M6.out.at_ (i := 0) (by omega) (HJ.out 0) y1 HY4.out HM.out)
          obtain ⟨r, hr⟩ : ∃ r, r = s.mend 0 j y1 := ⟨_, rfl⟩
          have HE2 := Lib.hid (show RV = (if r.1 = 0 then (1, 0) else (0, r.1), r.2) by rw [HEND.out, Mr.healTo, hr])
          rw [← hr] at HME
          clear hr HRV2 HEND
          go_wp2_with (first
            | (refine wpList_load_row rfl 38 (.tmp 6) rfl b6 rfl 38 (bva y0) (0, 0) _ X6.out.1 Try.underlying38 rfl HIY.out ?_)
            | (refine wpList_load_row rfl 38 (.tmp 8) rfl b8 rfl 38 (bva y1) (0, 0) _ Y6.out.1 Try.underlying38 rfl HIV.out ?_)
            | (refine wpList_execg8 rfl (exec_load 38 (.tmp 6) rfl rfl X6.out.1 Try.underlying38 rfl HIY.out) ?_)
            | (refine wpList_execg8 rfl (exec_load 38 (.tmp 8) rfl rfl Y6.out.1 Try.underlying38 rfl HIV.out) ?_))
          refine HME.out.mono ?_
          rintro e w7 ⟨rfl, F7, hm7⟩
          have M7 := Lib.hid (M6.out.trans hm7)
          clear hm7 M6 HME X6 Y6
          obtain ⟨r1, hr1⟩ : ∃ r1, r1 = r.1 := ⟨_, rfl⟩
          rw [← hr1]
          by_cases hr0 : r1 = 0
          · have HE3 := Lib.hid (show RV = ((1, 0), r.2) by rw [HE2.out, ← hr1, if_pos hr0])
            subst hr0
            clear hr1
            go_wp2_with fail
            refine (healed_ok _).mono ?_
            rintro e w8 ⟨rfl, rfl⟩
            go_wp2_with fail
            exact bodyPost_ret (results_tmp2 Try.results104 _ _ _) rfl ⟨by rw [HE3.out]; rfl, F7, by rw [HE3.out]; exact M7.out⟩
          · have HE3 := Lib.hid (show RV = ((0, r1), r.2) by rw [HE2.out, ← hr1, if_neg hr0])
            have HR0 := Lib.hid hr0
            clear hr1 hr0
            go_wp2_with fail
            refine (healed_no _ r1 HR0.out).mono ?_
            rintro e w8 ⟨rfl, rfl⟩
            go_wp2_with fail
            exact bodyPost_ret (results_tmp2 Try.results104 _ _ _) rfl ⟨by rw [HE3.out]; rfl, F7, by rw [HE3.out]; exact M7.out⟩
      · cases b
        · skip
          have HEND := Lib.hid (show RV = s.healTo 1 j y0 by rw [HRV2.out, if_pos rfl, if_neg (by simp)])
          have HME := Lib.hid (mend_any M6.out.at_ (i := 1) (by omega) (HJ.out 1) y0 HY3.out HM.out)
          obtain ⟨r, hr⟩ : ∃ r, r = s.mend 1 j y0 := ⟨_, rfl⟩
          have HE2 := Lib.hid (show RV = (if r.1 = 0 then (1, 0) else (0, r.1), r.2) by rw [HEND.out, Mr.healTo, hr])
          rw [← hr] at HME
          clear hr HRV2 HEND
          go_wp2_with (first
            | (refine wpList_load_row rfl 38 (.tmp 6) rfl b6 rfl 38 (bva y0) (0, 0) _ X6.out.1 Try.underlying38 rfl HIY.out ?_)
            | (refine wpList_load_row rfl 38 (.tmp 8) rfl b8 rfl 38 (bva y1) (0, 0) _ Y6.out.1 Try.underlying38 rfl HIV.out ?_)
            | (refine wpList_execg8 rfl (exec_load 38 (.tmp 6) rfl rfl X6.out.1 Try.underlying38 rfl HIY.out) ?_)
            | (refine wpList_execg8 rfl (exec_load 38 (.tmp 8) rfl rfl Y6.out.1 Try.underlying38 rfl HIV.out) ?_))
          refine HME.out.mono ?_
          rintro e w7 ⟨rfl, F7, hm7⟩
          have M7 := Lib.hid (M6.out.trans hm7)
          clear hm7 M6 HME X6 Y6
          obtain ⟨r1, hr1⟩ : ∃ r1, r1 = r.1 := ⟨_, rfl⟩
          rw [← hr1]
          by_cases hr0 : r1 = 0
          · have HE3 := Lib.hid (show RV = ((1, 0), r.2) by rw [HE2.out, ← hr1, if_pos hr0])
            subst hr0
            clear hr1
            go_wp2_with fail
            refine (healed_ok _).mono ?_
            rintro e w8 ⟨rfl, rfl⟩
            go_wp2_with fail
            exact bodyPost_ret (results_tmp2 Try.results104 _ _ _) rfl ⟨by rw [HE3.out]; rfl, F7, by rw [HE3.out]; exact M7.out⟩
          · have HE3 := Lib.hid (show RV = ((0, r1), r.2) by rw [HE2.out, ← hr1, if_neg hr0])
            have HR0 := Lib.hid hr0
            clear hr1 hr0
            go_wp2_with fail
            refine (healed_no _ r1 HR0.out).mono ?_
            rintro e w8 ⟨rfl, rfl⟩
            go_wp2_with fail
            exact bodyPost_ret (results_tmp2 Try.results104 _ _ _) rfl ⟨by rw [HE3.out]; rfl, F7, by rw [HE3.out]; exact M7.out⟩
        · by_cases hyy : y0 = y1
          · have HEND := Lib.hid (show RV = ((0, 0), s) by rw [HRV2.out, if_pos rfl, if_pos rfl, if_pos hyy])
            have hEQ : ∀ W, (Op.equalIn 10000 38 (.agg (bva y0)) (.agg (bva y1))).run Try.prog W = .ok true W := fun W => by rw [eq_sec _ _ HY3.out HY4.out, decide_eq_true hyy]
            clear hyy
            go_wp2_with (first
              | (refine wpList_load_row rfl 38 (.tmp 6) rfl b6 rfl 38 (bva y0) (0, 0) _ X6.out.1 Try.underlying38 rfl HIY.out ?_)
              | (refine wpList_load_row rfl 38 (.tmp 8) rfl b8 rfl 38 (bva y1) (0, 0) _ Y6.out.1 Try.underlying38 rfl HIV.out ?_)
              | (refine wpList_execg8 rfl (exec_load 38 (.tmp 6) rfl rfl X6.out.1 Try.underlying38 rfl HIY.out) ?_)
              | (refine wpList_execg8 rfl (exec_load 38 (.tmp 8) rfl rfl Y6.out.1 Try.underlying38 rfl HIV.out) ?_))
            exact bodyPost_ret (results_tmp2 Try.results104 _ _ _) rfl ⟨by rw [HEND.out]; rfl, F2, by rw [HEND.out]; exact M6.out⟩
          · have hEQ : ∀ W, (Op.equalIn 10000 38 (.agg (bva y0)) (.agg (bva y1))).run Try.prog W = .ok false W := fun W => by rw [eq_sec _ _ HY3.out HY4.out, decide_eq_false hyy]
            have HNE := Lib.hid hyy
            clear hyy
            have HEND := Lib.hid (show RV = s.healTo 1 j y0 by rw [HRV2.out, if_pos rfl, if_pos rfl, if_neg HNE.out])
            have HME := Lib.hid (mend_any M6.out.at_ (i := 1) (by omega) (HJ.out 1) y0 HY3.out HM.out)
            obtain ⟨r, hr⟩ : ∃ r, r = s.mend 1 j y0 := ⟨_, rfl⟩
            have HE2 := Lib.hid (show RV = (if r.1 = 0 then (1, 0) else (0, r.1), r.2) by rw [HEND.out, Mr.healTo, hr])
            rw [← hr] at HME
            clear hr HRV2 HEND
            go_wp2_with (first
              | (refine wpList_load_row rfl 38 (.tmp 6) rfl b6 rfl 38 (bva y0) (0, 0) _ X6.out.1 Try.underlying38 rfl HIY.out ?_)
              | (refine wpList_load_row rfl 38 (.tmp 8) rfl b8 rfl 38 (bva y1) (0, 0) _ Y6.out.1 Try.underlying38 rfl HIV.out ?_)
              | (refine wpList_execg8 rfl (exec_load 38 (.tmp 6) rfl rfl X6.out.1 Try.underlying38 rfl HIY.out) ?_)
              | (refine wpList_execg8 rfl (exec_load 38 (.tmp 8) rfl rfl Y6.out.1 Try.underlying38 rfl HIV.out) ?_))
            refine HME.out.mono ?_
            rintro e w7 ⟨rfl, F7, hm7⟩
            have M7 := Lib.hid (M6.out.trans hm7)
            clear hm7 M6 HME X6 Y6
            obtain ⟨r1, hr1⟩ : ∃ r1, r1 = r.1 := ⟨_, rfl⟩
            rw [← hr1]
            by_cases hr0 : r1 = 0
            · have HE3 := Lib.hid (show RV = ((1, 0), r.2) by rw [HE2.out, ← hr1, if_pos hr0])
              subst hr0
              clear hr1
              go_wp2_with fail
              refine (healed_ok _).mono ?_
              rintro e w8 ⟨rfl, rfl⟩
              go_wp2_with fail
              exact bodyPost_ret (results_tmp2 Try.results104 _ _ _) rfl ⟨by rw [HE3.out]; rfl, F7, by rw [HE3.out]; exact M7.out⟩
            · have HE3 := Lib.hid (show RV = ((0, r1), r.2) by rw [HE2.out, ← hr1, if_neg hr0])
              have HR0 := Lib.hid hr0
              clear hr1 hr0
              go_wp2_with fail
              refine (healed_no _ r1 HR0.out).mono ?_
              rintro e w8 ⟨rfl, rfl⟩
              go_wp2_with fail
              exact bodyPost_ret (results_tmp2 Try.results104 _ _ _) rfl ⟨by rw [HE3.out]; rfl, F7, by rw [HE3.out]; exact M7.out⟩
end
end Go.Proofs.Ythadomboiockhaa.Mi
/-
  The contracts of catchUp and Sync.
-/
namespace Go.Proofs.Ythadomboiockhaa.Mi
open Go.RowKit Kd
attribute [local go_sem ↓] Go.wp_at_zero Go.wp_at_succ
section
variable {C : Duo} {G : Gd} {g : Nat} {w : World} {s : Mr C} {F : Nat → Prop}
/-- One place of a device catches up. -/
def Mr.catch1 (G : Gd) (s : Mr C) (i n : Nat) : Mr C := if (s.st i).getD n false && right C G s (1 - i) n then (s.mend i n (rightV C G s (1 - i) n)).2 else s
def Mr.catchTo (G : Gd) (s : Mr C) (i : Nat) : Nat → Mr C
  | 0 => s
  | n + 1 => (s.catchTo G i n).catch1 G i n
theorem mend_ok {k i n : Nat} {x : List UInt8} (h : s.ok k) : (s.mend i n x).2.ok k := by
  unfold Mr.mend; dsimp only; split
  · exact Mr.ok.put h
  · exact h
theorem mend_most {i n : Nat} {x : List UInt8} (hi : i < 2) : C.most (s.mend i n x).2.d ≤ C.most s.d + 1 := by
  unfold Mr.mend; dsimp only; split
  · rw [put_d]; exact C.wr_most hi
  · exact C.wr_most hi
theorem catch1_ok {k i n : Nat} (h : s.ok k) : (s.catch1 G i n).ok k := by
  unfold Mr.catch1; split
  · exact mend_ok h
  · exact h
theorem catch1_most {i n : Nat} (hi : i < 2) : C.most (s.catch1 G i n).d ≤ C.most s.d + 1 := by
  unfold Mr.catch1; split
  · exact mend_most hi
  · exact Nat.le_succ _
theorem catchTo_ok {k i : Nat} (h : s.ok k) : ∀ n, (s.catchTo G i n).ok k
  | 0 => h
  | n + 1 => catch1_ok (catchTo_ok h n)
theorem catchTo_most {i : Nat} (hi : i < 2) : ∀ n, C.most (s.catchTo G i n).d ≤ C.most s.d + n
  | 0 => Nat.le_refl _
  | n + 1 => Nat.le_trans (catch1_most hi) (by have := catchTo_most hi n; omega)
theorem pin_cell {A B : Option Addr} {n c m e : Nat} {w : World} {s : Mr C} (h : (ML C (G.at A n c B m e) g).At w s F) {i : Nat} (hi : i < 2) :
    w.cell? ⟨g, 2 + i, none⟩ = some (if i = 0 then .slice A n c else .slice B m e) ∧ (s.st i).length = (if i = 0 then n else m) := by
  obtain ⟨A', n', c', B', m', e', F1, h, _⟩ := h
  obtain ⟨rfl, rfl, rfl, rfl, rfl, rfl⟩ := h.pin
  rcases two hi with rfl | rfl
  · exact ⟨h.blk.cell 2, h.an⟩
  · exact ⟨h.blk.cell 3, h.bn⟩
/-- What Sync makes of a mirror, and tells. -/
def Mr.caught (G : Gd) (s : Mr C) (k : Nat) : Mr C := (s.catchTo G 0 k).catchTo G 1 k
def Mr.sync (G : Gd) (s : Mr C) (k : Nat) : Int × Mr C :=
  if C.there s.d 0 && C.there s.d 1 then
    (if (s.caught G k).flushed = (true, true) then (if cnt (((s.caught G k).fl0 0).fl0 1).a = 0 ∧ cnt (((s.caught G k).fl0 0).fl0 1).b = 0 then 0 else 9) else 13, ((s.caught G k).fl0 0).fl0 1)
  else (13, s)
end
end Go.Proofs.Ythadomboiockhaa.Mi
/-
  The contract of slices.Repeat of one bool.
-/
namespace Go.Proofs.Ythadomboiockhaa.Mi
open Go.RowKit Kd
attribute [local go_sem ↓] Go.wp_at_zero Go.wp_at_succ
theorem mask_small (a : Nat) (ha : a < 4294967296) : bits .and .u64 (a : Int) 4294967295 = (a : Int) := by
  have h := bits_and_u64_nat a 4294967295 (by omega) (by omega)
  rw [show a &&& 4294967295 = a % 4294967296 from Nat.and_two_pow_sub_one_eq_mod a 32, Nat.mod_eq_of_lt ha] at h
  exact h
theorem mul_one (w : World) (N : Nat) (hN : N ≤ 4096) : Calls Try.prog 139 #[.int .u64 1, .int .u64 N] w (Ret0 (.tuple #[.int .u64 0, .int .u64 N]) w) := by
  have a1 : bits .and .u64 1 4294967295 = 1 := by decide
  have a0 : bits .and .u64 0 4294967295 = 0 := by decide
  have aN : bits .and .u64 (N : Int) 4294967295 = N := mask_small N (by omega)
  have dN : (N : Int) / 4294967296 = 0 := by omega
  have wN : IntKind.u64.wrap (N : Int) = N := IntWalk.u64_in _ (by omega)
  have w0 : IntKind.u64.wrap 0 = 0 := by decide
  clear hN
  go_enter Try.func139, Try.ntmps139
  go_wp2_with fail
  exact bodyPost_ret (results_tmp2 Try.results139 _ _ _) rfl ⟨by rfl, rfl⟩
theorem mul_u (w : World) (N : Nat) (hN : N ≤ 4096) : Calls Try.prog 121 #[.int .u64 1, .int .u64 N] w (Ret0 (.tuple #[.int .u64 0, .int .u64 N]) w) := by
  have HN := Lib.hid hN
  clear hN
  go_enter Try.func121, Try.ntmps121
  go_wp2_with fail
  refine (mul_one _ N HN.out).mono ?_
  rintro e _ ⟨rfl, rfl⟩
  go_wp2_with fail
  exact bodyPost_ret (results_tmp2 Try.results121 _ _ _) rfl ⟨rfl, rfl⟩
theorem info_boolW : (Try.prog.info? 4).map (fun i => (i.zero, i.size, i.bytes)) = some (some (.bool false), 1, 1) := by kernel_rfl
theorem info_bool : (Try.prog.info? 4).map (·.size) = some 1 := by kernel_rfl
/-- A row whose first n cells are b. -/
structure Fst (w0 w : World) (g N n : Nat) (b : Bool) : Prop where
  cells : ∃ cur : Array Value, w.heap[g]? = some (.cells cur 4 (0, 0)) ∧ cur.size = N ∧ ∀ i, i < n → cur[i]? = some (.bool b)
  le : n ≤ N
  bel : Below w0.heap.size w0 w
theorem splice_get {α : Type} (L : List α) (o : Nat) (cs : List α) (h : o + cs.length ≤ L.length) (i : Nat) : (splice L o cs)[i]? = if i < o then L[i]? else if i < o + cs.length then cs[i - o]? else L[i]? := by
  unfold splice
  have ht : (L.take o).length = o := by rw [List.length_take]; omega
  by_cases h1 : i < o
  · rw [if_pos h1, List.getElem?_append_left (by omega), List.getElem?_take, if_pos h1]
  · rw [if_neg h1, List.getElem?_append_right (by omega), ht]
    by_cases h2 : i < o + cs.length
    · rw [if_pos h2, List.getElem?_append_left (by omega)]
    · rw [if_neg h2, List.getElem?_append_right (by omega), List.getElem?_drop]
      congr 1; omega
/-- A copy of the first cells behind them. -/
theorem Fst.copy {w0 w : World} {g N n : Nat} {b : Bool} (h : Fst w0 w g N n b) (hg : w0.heap.size ≤ g) (m : Nat) (hm : m = Nat.min n (N - n)) (k1 k2 : Nat) :
    ∃ w', (Builtin.copy_ #[173, 173] 3 #[.slice (some ⟨g, n, none⟩) (N - n) k1, .slice (some ⟨g, 0, none⟩) n k2]).run Try.prog w = .ok (goInt m) w' ∧ Fst w0 w' g N (n + m) b := by
  obtain ⟨cur, hc, hs, hb⟩ := h.cells
  have hle := h.le
  have hmn : m ≤ n ∧ m ≤ N - n := by rw [hm]; exact ⟨Nat.min_le_left _ _, Nat.min_le_right _ _⟩
  have hr := run_copyN (P := Try.prog) w 173 173 3 4 1 Try.underlying173 info_bool g n (N - n) k1 ⟨g, 0, none⟩ n k2 cur 4 (List.replicate m (.bool b)) hc
    (by rw [List.length_replicate, Nat.mul_one, hm]) (fun j v hv => by
      have hj : j < m := by have := (List.getElem?_eq_some_iff.1 hv).1; rwa [List.length_replicate] at this
      rw [List.getElem?_replicate, if_pos hj] at hv
      rw [Addr.add_mid, Nat.zero_add, ← hv, ← hb j (by omega)]
      exact Blk.cell (show Blk w g cur 4 from hc) j) (by rw [List.length_replicate]; omega) (fun v hv => by rw [List.eq_of_mem_replicate hv]; rfl)
  rw [← hm] at hr
  refine ⟨_, hr, ⟨⟨_, setRow_heap _ _ _ _ _ _ hc, ?_, fun i hi => ?_⟩, by omega, below_setRow h.bel hg _⟩⟩
  · rw [List.size_toArray, length_splice _ _ _ (by rw [List.length_replicate, Array.length_toList]; omega), Array.length_toList]; exact hs
  · rw [List.getElem?_toArray, splice_get _ _ _ (by rw [List.length_replicate, Array.length_toList]; omega), List.length_replicate]
    split
    · rw [Array.getElem?_toList]; exact hb i (by omega)
    · rw [List.getElem?_replicate, if_pos (by omega)]
theorem Fst.row {w0 w : World} {g N : Nat} {b : Bool} (h : Fst w0 w g N N b) (hg : w0.heap.size ≤ g) (hN : N ≤ maxLen) : w.ownsRow w0.heap.size 4 1 (.slice (some ⟨g, 0, none⟩) N N) N (bs (List.replicate N b)) := by
  obtain ⟨cur, hc, hs, hb⟩ := h.cells
  refine ⟨by rw [bs_length, List.length_replicate, Nat.mul_one], .inr ⟨g, N, cur, rfl, hg, hc, Nat.le_refl _, hN, by rw [hs, Nat.mul_one], ?_⟩⟩
  apply List.ext_getElem?
  intro i
  rw [List.getElem?_take, Nat.mul_one, bs, List.getElem?_map, List.getElem?_replicate]
  split
  · rw [Array.getElem?_toList, hb i (by assumption)]; rfl
  · rfl
set_option maxRecDepth 100000 in
set_option maxHeartbeats 6400000 in
theorem repeat_any {w : World} {a : Addr} {b : Bool} {c : Nat} (hb : w.cell? a = some (.bool b)) (N : Nat) (hN : N ≤ 4096) :
    Calls Try.prog 94 #[.slice (some a) 1 c, .int .i64 N] w (fun e w' => ∃ g, e = .returned (.slice (some ⟨g, 0, none⟩) N N) ∧ w'.ownsRow w.heap.size 4 1 (.slice (some ⟨g, 0, none⟩) N N) N (bs (List.replicate N b)) ∧ Below w.heap.size w w') := by
  have HN := Lib.hid hN
  have HB := Lib.hid hb
  obtain ⟨i0, hi, hz0, hz1, hz2⟩ := info_parts info_boolW
  have n0 : (0 : Int) ≤ (N : Int) := by omega
  have n1 : (N : Int) ≤ 4096 := by omega
  have wu : IntKind.u64.wrap (N : Int) = N := IntWalk.u64_in _ (by omega)
  have wi : IntKind.i64.wrap (N : Int) = N := IntWalk.i64_in _ (by omega)
  have w1 : IntKind.u64.wrap 1 = 1 := by decide
  clear hN
  go_enter Try.func94, Try.ntmps94
  go_wp2_with fail
  refine (mul_u _ N HN.out).mono ?_
  rintro e _ ⟨rfl, rfl⟩
  go_wp2_with (at_make; apply Classical.byContradiction; intro hneg)
  refine hneg ?_
  clear hneg
  refine wpList_make_full _ rfl _ _ _ rfl w.heap.size 4 i0 _ 1 Try.underlying173 hi hz0 hz1 .i64 .i64 _ _ N rfl rfl rfl rfl (by rw [hz2]; have := HN.out; omega) (by have := HN.out; unfold maxLen; omega) (Nat.le_refl _) ?_
  intro w1 hown hg
  have HO1 := Lib.hid hown
  have HG1 := Lib.hid (below_of_grown8 hg)
  have HMC := Lib.hid hg
  clear hown hg
  obtain ⟨g, hge⟩ : ∃ g, g = w.heap.size := ⟨_, rfl⟩
  rw [← hge]
  rw [← hge] at HO1
  have HGE := Lib.hid (show w.heap.size ≤ g by omega)
  have F0 := Lib.hid (show Fst w w1 g N 0 b from by
    rcases HO1.out.2 with ⟨h0, _⟩ | ⟨g', cap, cur, h0, _, h2, _, _, h5, _⟩
    · cases h0
    · injection h0 with h0 _ h7
      injection h0 with h0
      injection h0 with h0
      subst h0 h7
      exact ⟨⟨cur, h2, by rw [h5, Nat.mul_one], fun i hi => absurd hi (Nat.not_lt_zero _)⟩, Nat.zero_le _, HG1.out⟩)
  have hab : a.block < w.heap.size := block_lt_of_cell HB.out
  have HB1 := Lib.hid (show w1.cell? a = some (.bool b) from by rw [HG1.out.cell hab]; exact HB.out)
  clear hge HO1 hab
  have HCP := Lib.hid (show ∃ w2, (Builtin.copy_ #[173, 173] 3 #[.slice (some ⟨g, 0, none⟩) N N, .slice (some a) 1 c]).run Try.prog w1 = .ok (goInt (Nat.min 1 N)) w2 ∧ Fst w w2 g N (Nat.min 1 N) b from by
    obtain ⟨cur, hc, hs, _⟩ := F0.out.cells
    have hm1 : Nat.min 1 N ≤ 1 ∧ Nat.min 1 N ≤ N := ⟨Nat.min_le_left _ _, Nat.min_le_right _ _⟩
    have hr := run_copyN (P := Try.prog) w1 173 173 3 4 1 Try.underlying173 info_bool g 0 N N a 1 c cur 4 (List.replicate (Nat.min 1 N) (.bool b)) hc
      (by rw [List.length_replicate, Nat.mul_one]) (fun j v hv => by
        have hj : j < Nat.min 1 N := by have := (List.getElem?_eq_some_iff.1 hv).1; rwa [List.length_replicate] at this
        rw [List.getElem?_replicate, if_pos hj] at hv
        obtain rfl : j = 0 := by omega
        rw [show a.add 0 = a by rw [add_zero], ← hv]
        exact HB1.out) (by rw [List.length_replicate]; omega) (fun v hv => by rw [List.eq_of_mem_replicate hv]; rfl)
    refine ⟨_, hr, ⟨⟨_, setRow_heap _ _ _ _ _ _ hc, ?_, fun i hi => ?_⟩, hm1.2, below_setRow F0.out.bel HGE.out _⟩⟩
    · rw [List.size_toArray, length_splice _ _ _ (by rw [List.length_replicate, Array.length_toList]; omega), Array.length_toList]; exact hs
    · rw [List.getElem?_toArray, splice_get _ _ _ (by rw [List.length_replicate, Array.length_toList]; omega), List.length_replicate, if_neg (Nat.not_lt_zero _), if_pos (by omega), List.getElem?_replicate, if_pos (by omega)])
  obtain ⟨m0, hm0⟩ : ∃ m0, m0 = Nat.min 1 N := ⟨_, rfl⟩
  rw [← hm0] at HCP
  have HM0 := Lib.hid hm0
  obtain ⟨w2, hcp, hf2⟩ := HCP.out
  have F2 := Lib.hid hf2
  have hcq : (Builtin.copy_ #[173, 173] 3 #[.slice (some ⟨g, 0, none⟩) N N, .slice (some a) 1 c]).run Try.prog w1 = .ok (.int .i64 m0) w2 := hcp
  clear hm0 hcp hf2 HCP F0 HMC HG1 HB1
  go_wp2_with fail
  go_loopw [8] (fun x wr => ∃ n : Nat, x = .int .i64 n ∧ Fst w wr g N n b ∧ (n = 0 → N = 0)) (fun x _ => N - (intOf x).toNat)
  case atStart => exact ⟨m0, rfl, F2.out, fun h => by have h1 := HM0.out; rw [h] at h1; have : Nat.min 1 N = min 1 N := rfl; omega⟩
  case round =>
    clear F2 HM0 hcq
    obtain ⟨n, rfl, hf, hnz⟩ := hrel
    have FF := Lib.hid hf
    have HNZ := Lib.hid hnz
    clear hf hnz
    by_cases hlt : n < N
    · have HLT := Lib.hid hlt
      have m0 : (0 : Int) ≤ (n : Int) := by omega
      have m1 : (n : Int) < (N : Int) := by omega
      have m2 : (n : Int) ≤ (N : Int) := by omega
      have m3 : ¬ N = n := by omega
      have e1 : (N : Int) - (n : Int) = ((N - n : Nat) : Int) := by omega
      obtain ⟨k, hk⟩ : ∃ k, k = Nat.min n (N - n) := ⟨_, rfl⟩
      have HK := Lib.hid hk
      have HKB := Lib.hid (show k ≤ n ∧ k ≤ N - n by rw [hk]; exact ⟨Nat.min_le_left _ _, Nat.min_le_right _ _⟩)
      have HK0 := Lib.hid (show 0 < k by
        have h1 : n ≠ 0 := fun h => by have := HNZ.out h; omega
        have : Nat.min n (N - n) = min n (N - n) := rfl
        omega)
      have wk : IntKind.i64.wrap ((n : Int) + (k : Int)) = ((n + k : Nat) : Int) := by rw [show (n : Int) + (k : Int) = ((n + k : Nat) : Int) by omega]; exact IntWalk.i64_in _ (by have := HKB.out; have := HN.out; omega)
      have HCP := Lib.hid (show ∀ W, W = wr.drew → ∃ w', (Builtin.copy_ #[173, 173] 3 #[.slice (some ⟨g, n, none⟩) (N - n) (N - n), .slice (some ⟨g, 0, none⟩) n N]).run Try.prog W = .ok (goInt k) w' ∧ Fst w w' g N (n + k) b from fun W hW => by
        subst hW
        have hf : Fst w wr.drew g N n b := ⟨FF.out.cells, FF.out.le, FF.out.bel.drew⟩
        exact hf.copy HGE.out k HK.out _ _)
      clear hlt hk
      go_wp2_with fail
      refine wp_region_held_drew (S := fun _ => True) (by kernel_rfl) trivial (fun hh => ?_)
      have HH := Lib.hid hh
      clear hh
      refine wpAnyH_take (i := 0) (v := ?vR0) rfl (by kernel_rfl) (by kernel_rfl) (by kernel_rfl) (fun _ _ _ h => h) (Or.inl ⟨by rfl, fun w' _ => ?yR0⟩) HH.out ?_
      case yR0 => (go_simp; try with_reducible rfl)
      refine wpAnyH_take (i := 1) (v := ?vR1) rfl (by kernel_rfl) (by kernel_rfl) (by kernel_rfl) (fun _ _ _ h => h) (Or.inl ⟨by rfl, fun w' _ => ?yR1⟩) HH.out ?_
      case yR1 => (go_simp; try with_reducible rfl)
      try simp only [List.getElem_toArray, List.getElem_cons_succ, List.getElem_cons_zero, Act.put, List.setIfInBounds_toArray, List.set_cons_zero, List.set_cons_succ]
      refine wpAnyH_take (i := 2) (v := ?vR2) rfl (by kernel_rfl) (by kernel_rfl) (by kernel_rfl) (fun _ _ _ h => h) (Or.inl ⟨by rfl, fun w' _ => ?yR2⟩) HH.out ?_
      case yR2 => (go_simp; try with_reducible rfl)
      refine wpAnyH_take (i := 3) (v := ?vR3) rfl (by kernel_rfl) (by kernel_rfl) (by kernel_rfl) (fun _ _ _ h => h) (Or.inl ⟨by rfl, fun w' _ => ?yR3⟩) HH.out ?_
      case yR3 => (go_simp; try with_reducible rfl)
      refine wpAnyH_take (i := 4) (v := ?vR4) rfl (by kernel_rfl) (by kernel_rfl) (by kernel_rfl) (fun _ _ _ h => h) (Or.inl ⟨by rfl, fun w' _ => ?yR4⟩) HH.out ?_
      case yR4 => (go_simp; try with_reducible rfl)
      try simp only [List.getElem_toArray, List.getElem_cons_succ, List.getElem_cons_zero, Act.put, List.setIfInBounds_toArray, List.set_cons_zero, List.set_cons_succ]
      refine wpAnyH_take (i := 5) (v := ?vR5) rfl (by kernel_rfl) (by kernel_rfl) (by kernel_rfl) (fun _ _ _ h => h) (Or.inl ⟨by rfl, fun w' _ => ?yR5⟩) HH.out ?_
      case yR5 => (go_simp; try with_reducible rfl)
      refine wpAnyH_take (i := 6) (v := ?vR6) rfl (by kernel_rfl) (by kernel_rfl) (by kernel_rfl) (fun _ _ _ h => h) (Or.inl ⟨by rfl, fun w' _ => ?yR6⟩) HH.out ?_
      case yR6 => (go_simp; try with_reducible rfl)
      try simp only [List.getElem_toArray, List.getElem_cons_succ, List.getElem_cons_zero, Act.put, List.setIfInBounds_toArray, List.set_cons_zero, List.set_cons_succ]
      refine wpAnyH_ready (rs := [7]) (by kernel_rfl) (by simp) (AllReadyH.cons rfl (fun K hK => ?_) AllReadyH.nil)
      obtain ⟨w3, hcp, hf3⟩ := HCP.out _ rfl
      have F3 := Lib.hid hf3
      have HC3 := Lib.hid hcp
      clear hcp hf3 HCP
      refine step_copyR (by rfl) (.tmp 41) (.tmp 44) 173 173 rfl _ _ rfl rfl HC3.out ?_
      refine hK.out _ _ trivial (fun hh => ?_)
      have HH' := Lib.hid hh
      clear hh hK K HH FF HC3
      have HH := Lib.hid HH'.out
      clear HH'
      refine wpAnyH_take (i := 8) (v := ?vR8) rfl (by kernel_rfl) (by kernel_rfl) (by kernel_rfl) (fun _ _ _ h => h) (Or.inl ⟨by rfl, fun w' _ => ?yR8⟩) HH.out ?_
      case yR8 => (go_simp; try with_reducible rfl)
      refine wpAnyH_take (i := 9) (v := ?vR9) rfl (by kernel_rfl) (by kernel_rfl) (by kernel_rfl) (fun _ _ _ h => h) (Or.inl ⟨by rfl, fun w' _ => ?yR9⟩) HH.out ?_
      case yR9 => (go_simp; try with_reducible rfl)
      try simp only [List.getElem_toArray, List.getElem_cons_succ, List.getElem_cons_zero, Act.put, List.setIfInBounds_toArray, List.set_cons_zero, List.set_cons_succ]
      refine wpAnyH_done (by kernel_rfl) ?_ _
      go_wp2_with fail
      go_roundw
      case rel => exact ⟨n + k, by go_num, F3.out, fun h => by have := HK0.out; omega⟩
      case measure => (have := HLT.out; have := HK0.out; simp [intOf]; omega)
    · obtain rfl : n = N := by have := FF.out.le; omega
      clear hlt
      go_wp2_with fail
      go_ret
      exact ⟨g, rfl, FF.out.row HGE.out (by have := HN.out; unfold maxLen; omega), FF.out.bel⟩
end Go.Proofs.Ythadomboiockhaa.Mi
/-
  The contract of mirror.New.
-/
namespace Go.Proofs.Ythadomboiockhaa.Mi
open Go.RowKit Kd
attribute [local go_sem ↓] Go.wp_at_zero Go.wp_at_succ
section
variable {C : Duo} {G : Gd} {g : Nat} {w w1 w' : World} {s : Mr C} {A B : Option Addr} {n c m e : Nat} {F1 F : Nat → Prop}
def Mr.row (s : Mr C) (i : Nat) (l : List Bool) : Mr C := if i = 0 then ⟨s.d, l, s.b⟩ else ⟨s.d, s.a, l⟩
/-- A new row of what is stale. -/
theorem ml_setrow (hR : ∀ A n c B m e, G.R A n c B m e) (h : (ML C G g).At w s F) (hb : Below w.heap.size w w1) {q k i : Nat} {l : List Bool} (ho : w1.ownsRow w.heap.size 4 1 (.slice (some ⟨q, 0, none⟩) k k) k (bs l)) (hl : l.length = k) (hi : i < 2) :
    Mv (ML C G g) w F (w1.setCell ⟨g, 2 + i, none⟩ (.slice (some ⟨q, 0, none⟩) k k)) (s.row i l) (fun x => F x ∨ x = q) := by
  obtain ⟨A, n, c, B, m, e, F1, h, h1, h2⟩ := h
  have hlt := h.lt
  have hq := (ho.lt q rfl)
  have h0 : MrR C G g w1 s A n c B m e F1 := h.but (T := fun _ => False) (but_below hb) (fun _ _ h => h)
  have hT : But (fun x => x = g) w1 (w1.setCell ⟨g, 2 + i, none⟩ (.slice (some ⟨q, 0, none⟩) k k)) := but_one _
  have hgw : g < w.heap.size := h.blk.lt
  have ho0 : w1.ownsRow 0 4 1 (.slice (some ⟨q, 0, none⟩) k k) k (bs l) := ⟨ho.1, by
    rcases ho.2 with h3 | ⟨g', cap, cur, h3, _, h4⟩
    · exact .inl h3
    · exact .inr ⟨g', cap, cur, h3, Nat.zero_le _, h4⟩⟩
  have hfin : ∀ x, (F x ∨ x = q) → x < (w1.setCell ⟨g, 2 + i, none⟩ (.slice (some ⟨q, 0, none⟩) k k)).heap.size := by
    rintro x (hx | rfl)
    · exact Nat.lt_of_lt_of_le (h2 x hx) (Nat.le_trans hb.size hT.size)
    · exact Nat.lt_of_lt_of_le hq.2 hT.size
  have hnew : ∀ x, (F x ∨ x = q) → F x ∨ w.heap.size ≤ x := by
    rintro x (hx | rfl)
    · exact .inl hx
    · exact .inr hq.1
  have hbt : But F w (w1.setCell ⟨g, 2 + i, none⟩ (.slice (some ⟨q, 0, none⟩) k k)) := (but_below hb).trans (hT.mono (fun x hx => h1 x (.inl hx)))
  have hoT := Own.but ho0 hT (fun x hx hx' => by injection hx with hx; replace hx : q = x := hx; omega)
  have hdT := C.L.but h0.d hT (fun x hx hx' => h.ag (hx' ▸ hx))
  have hgb : ∀ x ∈ G.l, Blk (w1.setCell ⟨g, 2 + i, none⟩ (.slice (some ⟨q, 0, none⟩) k k)) x.1 x.2.1 x.2.2 ∧ ¬ F1 x.1 := fun x hx => ⟨(h0.gb x hx).1.but hT (fun hx' => h0.box_ne hx h0.blk (.inr rfl) hx'), (h0.gb x hx).2⟩
  rcases two hi with rfl | rfl
  · refine ⟨⟨some ⟨q, 0, none⟩, k, k, B, m, e, F1, ⟨blk_setN8 h0.blk 2 _, hoT, Own.but h0.b hT (fun x hx hx' => h.rows.2 x hx hx'), hl, h.bn, hdT, h.ag, ?_, h.ab, ?_, hR _ _ _ _ _ _, hgb⟩, ?_, hfin⟩, hnew, hbt⟩
    · intro x hx hf
      injection hx with hx; replace hx : q = x := hx
      have := C.L.lt h.d x hf; omega
    · intro x hx hx'
      injection hx with hx; replace hx : q = x := hx
      have := hlt x (.inr (.inr (.inl hx'))); omega
    · rintro x (hx | hx | hx | hx)
      · exact .inl (h1 x (.inl hx))
      · injection hx with hx; exact .inr hx.symm
      · exact .inl (h1 x (.inr (.inr (.inl hx))))
      · exact .inl (h1 x (.inr (.inr (.inr hx))))
  · refine ⟨⟨A, n, c, some ⟨q, 0, none⟩, k, k, F1, ⟨blk_setN8 h0.blk 3 _, Own.but h0.a hT (fun x hx hx' => h.rows.1 x hx hx'), hoT, h.an, hl, hdT, h.ag, h.aa, ?_, ?_, hR _ _ _ _ _ _, hgb⟩, ?_, hfin⟩, hnew, hbt⟩
    · intro x hx hf
      injection hx with hx; replace hx : q = x := hx
      have := C.L.lt h.d x hf; omega
    · intro x hx hx'
      injection hx' with hx'; replace hx' : q = x := hx'
      have := hlt x (.inr (.inl hx)); omega
    · rintro x (hx | hx | hx | hx)
      · exact .inl (h1 x (.inl hx))
      · exact .inl (h1 x (.inr (.inl hx)))
      · injection hx with hx; exact .inr hx.symm
      · exact .inl (h1 x (.inr (.inr (.inr hx))))
/-- How many places a mirror has; a new one. -/
def Duo.places (C : Duo) (d : C.L.St) : Nat := min (C.len d 0) (C.len d 1)
def newM (C : Duo) (d : C.L.St) : Mr C := ⟨d, List.replicate (C.places d) (!(C.there d 0)), List.replicate (C.places d) (!(C.there d 1))⟩
theorem ml_new (hR : ∀ A n c B m e, G.R A n c B m e) {d : C.L.St} (h : C.L.At w d F1) (hG : ∀ x ∈ G.l, Blk w x.1 x.2.1 x.2.2 ∧ ¬ F1 x.1) (hw1 : w1 = w.alloc (.cells (mrC C G none 0 0 none 0 0) 176)) : (ML C G w.heap.size).At w1 ⟨d, [], []⟩ (fun x => (F1 x ∨ ∃ y ∈ G.l, x = y.1) ∨ x = w.heap.size) := by
  have hb : Below w.heap.size w w1 := by rw [hw1]; exact (Below.refl _ _).alloc (Nat.le_refl _) _
  refine ⟨none, 0, 0, none, 0, 0, F1, ⟨by rw [hw1]; exact heap_alloc_new _ _, ⟨rfl, .inl ⟨rfl, rfl⟩⟩, ⟨rfl, .inl ⟨rfl, rfl⟩⟩, rfl, rfl, C.L.below h hb, fun hf => by have := C.L.lt h _ hf; omega, fun q hq => (by cases hq), fun q hq => (by cases hq), fun q hq => (by cases hq), hR _ _ _ _ _ _, fun x hx => ⟨(hG x hx).1.below hb, (hG x hx).2⟩⟩, ?_, ?_⟩
  · rintro x (hx | hx | hx | hx | hx)
    · exact .inr hx
    · cases hx
    · cases hx
    · exact .inl (.inl hx)
    · exact .inl (.inr hx)
  · rintro x ((hx | ⟨y, hy, rfl⟩) | rfl)
    · exact Nat.lt_of_lt_of_le (C.L.lt h x hx) hb.size
    · exact Nat.lt_of_lt_of_le (hG y hy).1.lt hb.size
    · rw [hw1]; simp
theorem ml_len (h : (ML C G g).At w s F) {i : Nat} (hi : i < 2) : Calls Try.prog 17 #[.pointer (C.ptr i)] w (RetB (.int .i64 (C.len s.d i : Int)) w) := by
  obtain ⟨F1, hd, _⟩ := ml_dev h
  exact C.clen hd hi
theorem ml_lenle (h : (ML C G g).At w s F) {i : Nat} (hi : i < 2) : C.len s.d i ≤ 4096 := by
  obtain ⟨F1, hd, _⟩ := ml_dev h
  exact C.len_le hd hi
theorem ml_rowcell (h : (ML C G g).At w s F) {i : Nat} (hi : i < 2) : (∃ v, w.cell? ⟨g, 2 + i, none⟩ = some v) ∧ w.frozen? ⟨g, 2 + i, none⟩ = false ∧ g < w.heap.size := by
  obtain ⟨A, n, c, B, m, e, F1, h, _⟩ := h
  rcases two hi with rfl | rfl
  · exact ⟨⟨_, h.blk.cell 2⟩, h.blk.free 2, h.blk.lt⟩
  · exact ⟨⟨_, h.blk.cell 3⟩, h.blk.free 3, h.blk.lt⟩
theorem own_moreN {w : World} {base base' n size : Nat} {e : TypeId} {v : Value} {xs : List Value} (h : w.ownsRow base e size v n xs) (hb : base' ≤ base) : w.ownsRow base' e size v n xs :=
  ⟨h.1, h.2.imp id (fun ⟨g, cap, cur, h1, h2, h3⟩ => ⟨g, cap, cur, h1, Nat.le_trans hb h2, h3⟩)⟩
theorem gd_cell (G : Gd) : G.v.oneCell' = true := by unfold Gd.v; split <;> rfl
theorem gd_form (G : Gd) : G.v = .nilFunc ∨ ∃ k c, G.v = .func (.func k) #[] c := by
  unfold Gd.v; split
  · exact .inl rfl
  · exact .inr ⟨_, _, rfl⟩
theorem build_mir (p q : Option Addr) (gv : Value) (hg : gv = .nilFunc ∨ ∃ k c, gv = .func (.func k) #[] c) (W : World) : (Instr.build 176 #[(0, .agg #[.pointer p, .pointer q]), (2, gv)]).run Try.prog W = .ok (.agg #[.pointer p, .pointer q, .slice none 0 0, .slice none 0 0, gv]) W := by
  rcases hg with rfl | ⟨k, c, rfl⟩ <;> kernel_rfl
theorem build_two (p q : Option Addr) (W : World) : (Instr.build 172 #[(0, .pointer p), (1, .pointer q)]).run Try.prog W = .ok (.agg #[.pointer p, .pointer q]) W := by kernel_rfl
set_option maxRecDepth 100000 in
set_option maxHeartbeats 12800000 in
theorem new_anyG (hR : ∀ A n c B m e, G.R A n c B m e) {d : C.L.St} (h : C.L.At w d F1) (hG : ∀ x ∈ G.l, Blk w x.1 x.2.1 x.2.2 ∧ ¬ F1 x.1) {FF : Nat → Prop} (hFF : FF = fun x => F1 x ∨ ∃ y ∈ G.l, x = y.1) :
    Calls Try.prog 42 #[.pointer (C.ptr 0), .pointer (C.ptr 1), G.v] w (fun e w' => ∃ g F', e = .returned (.pointer (some ⟨g, 0, none⟩)) ∧ (ML C G g).At w' (newM C d) F' ∧ (∀ q, F' q → FF q ∨ w.heap.size ≤ q) ∧ But FF w w') := by
  obtain ⟨w1, hw1⟩ : ∃ w1, w1 = w.alloc (.cells (mrC C G none 0 0 none 0 0) 176) := ⟨_, rfl⟩
  have H := Lib.hid h
  have HA := Lib.hid (show (ML C G w.heap.size).At w1 ⟨d, [], []⟩ (fun x => FF x ∨ x = w.heap.size) from by rw [hFF]; exact ml_new hR h hG hw1)
  have HR := Lib.hid hR
  obtain ⟨p, hp⟩ : ∃ p, p = C.ptr 0 := ⟨_, rfl⟩
  obtain ⟨q, hq⟩ : ∃ q, q = C.ptr 1 := ⟨_, rfl⟩
  have hgf := gd_form G
  obtain ⟨gv, hgv⟩ : ∃ gv, gv = G.v := ⟨_, rfl⟩
  have HL0 := Lib.hid (show ∀ W s' F', (ML C G w.heap.size).At W s' F' → s'.d = d → Calls Try.prog 17 #[.pointer p] W (RetB (.int .i64 (C.len d 0 : Int)) W) from fun W s' F' h hd => by rw [hp, ← hd]; exact ml_len h (by omega))
  have HL1 := Lib.hid (show ∀ W s' F', (ML C G w.heap.size).At W s' F' → s'.d = d → Calls Try.prog 17 #[.pointer q] W (RetB (.int .i64 (C.len d 1 : Int)) W) from fun W s' F' h hd => by rw [hq, ← hd]; exact ml_len h (by omega))
  have HLE := Lib.hid (show C.places d ≤ 4096 from Nat.le_trans (Nat.min_le_left _ _) (C.len_le h (i := 0) (by omega)))
  have HBM := Lib.hid (build_mir p q gv (by rw [hgv]; exact hgf))
  have HB2 := Lib.hid (build_two p q)
  have HMC : mrC C G none 0 0 none 0 0 = #[.pointer p, .pointer q, .slice none 0 0, .slice none 0 0, gv] := by rw [mrC, hp, hq, hgv]
  rw [HMC] at hw1
  rw [← hp, ← hq, ← hgv]
  have BW1 := Lib.hid (show Below w.heap.size w w1 from by rw [hw1]; exact (Below.refl _ _).alloc (Nat.le_refl _) _)
  obtain ⟨g, hg⟩ : ∃ g, g = w.heap.size := ⟨_, rfl⟩
  rw [← hg] at HA HL0 HL1
  have HG := Lib.hid hg
  obtain ⟨x, hx⟩ : ∃ x, x = C.there d 0 := ⟨_, rfl⟩
  obtain ⟨y, hy⟩ : ∃ y, y = C.there d 1 := ⟨_, rfl⟩
  obtain ⟨k, hk⟩ : ∃ k, k = C.places d := ⟨_, rfl⟩
  have HN := Lib.hid (show newM C d = ⟨d, List.replicate k (!x), List.replicate k (!y)⟩ by rw [newM, hx, hy, hk])
  obtain ⟨la, hla⟩ : ∃ la, la = C.len d 0 := ⟨_, rfl⟩
  obtain ⟨lb, hlb⟩ : ∃ lb, lb = C.len d 1 := ⟨_, rfl⟩
  rw [← hla] at HL0
  rw [← hlb] at HL1
  have HKM := Lib.hid (show (if lb < la then (lb : Int) else (la : Int)) = (k : Int) by rw [hk, Duo.places, ← hla, ← hlb]; split <;> omega)
  rw [← hk] at HLE
  have HET := Lib.hid (each_there HA.out)
  rw [show (Mr.d (⟨d, [], []⟩ : Mr C)) = d from rfl, ← hx, ← hy] at HET
  rw [HN.out]
  clear hp hq hgf hgv HMC h hG hFF hR hx hy hk hla hlb HN
  go_enter Try.func42, Try.ntmps42
  go_wp2_with (first
    | (refine wpList_build rfl 172 #[(0, .tmp 10), (1, .tmp 11)] rfl (v := .agg #[.pointer p, .pointer q]) ?hbld ?_; case hbld => (simp only [List.map_toArray, List.map_cons, List.map_nil]; exact HB2.out _))
    | (refine wpList_build rfl 176 #[(0, .tmp 12), (2, .tmp 13)] rfl (v := .agg #[.pointer p, .pointer q, .slice none 0 0, .slice none 0 0, gv]) ?hbld ?_; case hbld => (simp only [List.map_toArray, List.map_cons, List.map_nil]; exact HBM.out _)))
  rw [← hw1, ← hg]
  clear hw1 hg
  refine HET.out.mono ?_
  rintro e w2 ⟨rfl, F2, hm2⟩
  have M2 := Lib.hid hm2
  clear hm2 HET HB2 HBM
  go_wp2_with fail
  go_loopw [19] (fun i wr => ∃ (j : Nat) (F' : Nat → Prop) (s' : Mr C), i = .int .i64 j ∧ Mv (ML C G g) w1 (fun x => FF x ∨ x = g) wr s' F' ∧ s'.d = d ∧ ((j = 0 ∧ s' = ⟨d, [], []⟩) ∨ (j = 1 ∧ s' = ⟨d, List.replicate k (!x), []⟩) ∨ (j = 2 ∧ s' = ⟨d, List.replicate k (!x), List.replicate k (!y)⟩))) (fun i _ => 2 - (intOf i).toNat)
  case atStart => exact ⟨0, F2, _, rfl, M2.out, rfl, .inl ⟨rfl, rfl⟩⟩
  case round =>
    clear M2
    obtain ⟨j, F', s', rfl, hm, hsd, hj⟩ := hrel
    have M := Lib.hid hm
    have HSD := Lib.hid hsd
    clear hm hsd
    rcases hj with ⟨rfl, hs⟩ | ⟨rfl, hs⟩ | ⟨rfl, hs⟩
    · skip
      have HS := Lib.hid hs
      clear hs
      go_wp2_with (refine wpList_execg8 (o := { dst := some 22, op := .index 177 (.tmp 18) (.tmp 19), type := _, pos := _, after := _, guard := _ }) (v := .bool x) (w' := wr) rfl ?hix ?_; case hix => kernel_rfl)
      refine wp_region_held_drew (S := fun _ => True) (by kernel_rfl) trivial (fun hh => ?_)
      have HH := Lib.hid hh
      clear hh
      refine wpAnyH_take (i := 0) (v := ?vN00) rfl (by kernel_rfl) (by kernel_rfl) (by kernel_rfl) (fun _ _ _ h => h) (Or.inl ⟨by rfl, fun w' _ => ?yN00⟩) HH.out ?_
      case yN00 => (go_simp; try with_reducible rfl)
      refine wpAnyH_take (i := 1) (v := ?vN01) rfl (by kernel_rfl) (by kernel_rfl) (by kernel_rfl) (fun _ _ _ h => h) (Or.inl ⟨by rfl, fun w' _ => ?yN01⟩) HH.out ?_
      case yN01 => (go_simp; try with_reducible rfl)
      try simp only [List.getElem_toArray, List.getElem_cons_succ, List.getElem_cons_zero, Act.put, List.setIfInBounds_toArray, List.set_cons_zero, List.set_cons_succ]
      refine wpAnyH_take (i := 2) (v := ?vN02) rfl (by kernel_rfl) (by kernel_rfl) (by kernel_rfl) (fun _ _ _ h => h) (Or.inl ⟨by rfl, fun w' _ => ?yN02⟩) HH.out ?_
      case yN02 => (go_simp; try with_reducible rfl)
      refine wpAnyH_take (i := 3) (v := ?vN03) rfl (by kernel_rfl) (by kernel_rfl) (by kernel_rfl) (fun _ _ _ h => h) (Or.inl ⟨by rfl, fun w' _ => ?yN03⟩) HH.out ?_
      case yN03 => (go_simp; try with_reducible rfl)
      refine wpAnyH_take (i := 5) (v := ?vN05) rfl (by kernel_rfl) (by kernel_rfl) (by kernel_rfl) (fun _ _ _ h => h) (Or.inl ⟨by rfl, fun w' _ => ?yN05⟩) HH.out ?_
      case yN05 => (go_simp; try with_reducible rfl)
      try simp only [List.getElem_toArray, List.getElem_cons_succ, List.getElem_cons_zero, Act.put, List.setIfInBounds_toArray, List.set_cons_zero, List.set_cons_succ]
      refine wpAnyH_take (i := 7) (v := ?vN07) rfl (by kernel_rfl) (by kernel_rfl) (by kernel_rfl) (fun _ _ _ h => h) (Or.inl ⟨by rfl, fun w' _ => ?yN07⟩) HH.out ?_
      case yN07 => (go_simp; try with_reducible rfl)
      refine wpAnyH_take (i := 11) (v := ?vN011) rfl (by kernel_rfl) (by kernel_rfl) (by kernel_rfl) (fun _ _ _ h => h) (Or.inl ⟨by rfl, fun w' _ => ?yN011⟩) HH.out ?_
      case yN011 => (go_simp; try with_reducible rfl)
      refine wpAnyH_take (i := 12) (v := ?vN012) rfl (by kernel_rfl) (by kernel_rfl) (by kernel_rfl) (fun _ _ _ h => h) (Or.inl ⟨by rfl, fun w' _ => ?yN012⟩) HH.out ?_
      case yN012 => (go_simp; try with_reducible rfl)
      try simp only [List.getElem_toArray, List.getElem_cons_succ, List.getElem_cons_zero, Act.put, List.setIfInBounds_toArray, List.set_cons_zero, List.set_cons_succ]
      refine wpAnyH_ready (rs := [4, 6]) (by kernel_rfl) (by simp) (AllReadyH.cons rfl (fun K hK => ?_) (AllReadyH.cons rfl (fun K hK => ?_) AllReadyH.nil))
      · skip
        go_simp
        refine hK.out _ _ trivial (fun hh => ?_)
        have HH' := Lib.hid hh
        clear hh hK K HH
        have HH := Lib.hid HH'.out
        clear HH'
        have B1 := Lib.hid (show Below wr.heap.size wr (World.alloc wr.drew (.cells #[.bool (!x)] 4)) from ((Below.refl wr.heap.size wr).drew).alloc ((Below.refl wr.heap.size wr).drew).size _)
        have X1 := Lib.hid (show Blk (World.alloc wr.drew (.cells #[.bool (!x)] 4)) wr.drew.heap.size #[.bool (!x)] 4 from heap_alloc_new _ _)
        try simp only [List.getElem_toArray, List.getElem_cons_succ, List.getElem_cons_zero, Act.put, List.setIfInBounds_toArray, List.set_cons_zero, List.set_cons_succ]
        refine wpAnyH_ready (rs := [6]) (by kernel_rfl) (by simp) (AllReadyH.cons rfl (fun K hK => ?_) AllReadyH.nil)
        go_simp
        refine (HL0.out _ _ _ ((ML C G g).below M.out.at_ (B1.out)) HSD.out).mono ?_
        rintro e v2 ⟨rfl, bw⟩
        have B2 := Lib.hid ((B1.out).trans (bw.mono (B1.out).size))
        have X2 := Lib.hid (Blk.below (X1.out) bw)
        clear bw
        go_simp
        refine hK.out _ _ trivial (fun hh => ?_)
        have HH' := Lib.hid hh
        clear hh hK K HH
        have HH := Lib.hid HH'.out
        clear HH'
        try simp only [List.getElem_toArray, List.getElem_cons_succ, List.getElem_cons_zero, Act.put, List.setIfInBounds_toArray, List.set_cons_zero, List.set_cons_succ]
        refine wpAnyH_ready (rs := [8]) (by kernel_rfl) (by simp) (AllReadyH.cons rfl (fun K hK => ?_) AllReadyH.nil)
        go_simp
        refine (HL1.out _ _ _ ((ML C G g).below M.out.at_ (B2.out)) HSD.out).mono ?_
        rintro e v3 ⟨rfl, bw⟩
        have B3 := Lib.hid ((B2.out).trans (bw.mono (B2.out).size))
        have X3 := Lib.hid (Blk.below (X2.out) bw)
        clear bw
        go_simp
        refine hK.out _ _ trivial (fun hh => ?_)
        have HH' := Lib.hid hh
        clear hh hK K HH
        have HH := Lib.hid HH'.out
        clear HH'
        try simp only [List.getElem_toArray, List.getElem_cons_succ, List.getElem_cons_zero, Act.put, List.setIfInBounds_toArray, List.set_cons_zero, List.set_cons_succ]
        refine wpAnyH_take (i := 9) (v := .int .i64 (k : Int)) rfl (by kernel_rfl) (by kernel_rfl) (by kernel_rfl) (fun _ _ _ h => h) (Or.inl ⟨by rfl, fun w' hw' => ?ym39⟩) HH.out ?_
        case ym39 => (go_simp; exact HKM.out)
        try simp only [List.getElem_toArray, List.getElem_cons_succ, List.getElem_cons_zero, Act.put, List.setIfInBounds_toArray, List.set_cons_zero, List.set_cons_succ]
        refine wpAnyH_ready (rs := [10]) (by kernel_rfl) (by simp) (AllReadyH.cons rfl (fun K hK => ?_) AllReadyH.nil)
        go_simp
        refine (repeat_any (a := ⟨wr.drew.heap.size, 0, none⟩) ((X3.out).cell 0) k HLE.out).mono ?_
        rintro e v9 ⟨q9, rfl, ho9, bw9⟩
        have HS9 := Lib.hid (ml_setrow HR.out M.out.at_ ((B3.out).trans (bw9.mono (B3.out).size)) (own_moreN ho9 (B3.out).size) (List.length_replicate ..) (i := 0) (by omega))
        obtain ⟨⟨u9, c9⟩, f9, _⟩ := ml_rowcell ((ML C G g).below M.out.at_ ((B3.out).trans (bw9.mono (B3.out).size))) (i := 0) (by omega)
        have c9' : v9.cell? ⟨g, 2, none⟩ = some u9 := c9
        have f9' : v9.frozen? ⟨g, 2, none⟩ = false := f9
        clear bw9 ho9 c9 f9
        go_simp
        refine hK.out _ _ trivial (fun hh => ?_)
        have HH' := Lib.hid hh
        clear hh hK K HH
        have HH := Lib.hid HH'.out
        clear HH'
        try simp only [List.getElem_toArray, List.getElem_cons_succ, List.getElem_cons_zero, Act.put, List.setIfInBounds_toArray, List.set_cons_zero, List.set_cons_succ]
        refine wpAnyH_take (i := 13) (v := ?vz313) rfl (by kernel_rfl) (by kernel_rfl) (by kernel_rfl) (fun _ _ _ h => h) (Or.inl ⟨by rfl, fun w' _ => ?yz313⟩) HH.out ?_
        case yz313 => (go_simp; try with_reducible rfl)
        try simp only [List.getElem_toArray, List.getElem_cons_succ, List.getElem_cons_zero, Act.put, List.setIfInBounds_toArray, List.set_cons_zero, List.set_cons_succ]
        refine wpAnyH_ready (rs := [14]) (by kernel_rfl) (by simp) (AllReadyH.cons rfl (fun K hK => ?_) AllReadyH.nil)
        go_simp
        refine hK.out _ _ trivial (fun hh => ?_)
        have HH' := Lib.hid hh
        clear hh hK K HH
        have HH := Lib.hid HH'.out
        clear HH'
        refine wpAnyH_done (by kernel_rfl) ?_ _
        go_wp2_with fail
        go_roundw
        case rel => exact ⟨1, _, _, rfl, M.out.trans HS9.out, HSD.out, .inr (.inl ⟨rfl, by rw [HS.out]; rfl⟩)⟩
        case measure => simp [intOf]
      · skip
        go_simp
        refine (HL0.out _ _ _ ((ML C G g).below M.out.at_ ((Below.refl wr.heap.size wr).drew)) HSD.out).mono ?_
        rintro e v4 ⟨rfl, bw⟩
        have B4 := Lib.hid (((Below.refl wr.heap.size wr).drew).trans (bw.mono ((Below.refl wr.heap.size wr).drew).size))
        clear bw
        go_simp
        refine hK.out _ _ trivial (fun hh => ?_)
        have HH' := Lib.hid hh
        clear hh hK K HH
        have HH := Lib.hid HH'.out
        clear HH'
        try simp only [List.getElem_toArray, List.getElem_cons_succ, List.getElem_cons_zero, Act.put, List.setIfInBounds_toArray, List.set_cons_zero, List.set_cons_succ]
        refine wpAnyH_ready (rs := [4, 8]) (by kernel_rfl) (by simp) (AllReadyH.cons rfl (fun K hK => ?_) (AllReadyH.cons rfl (fun K hK => ?_) AllReadyH.nil))
        · skip
          go_simp
          refine hK.out _ _ trivial (fun hh => ?_)
          have HH' := Lib.hid hh
          clear hh hK K HH
          have HH := Lib.hid HH'.out
          clear HH'
          have B5 := Lib.hid (show Below wr.heap.size wr (World.alloc v4 (.cells #[.bool (!x)] 4)) from (B4.out).alloc (B4.out).size _)
          have X5 := Lib.hid (show Blk (World.alloc v4 (.cells #[.bool (!x)] 4)) v4.heap.size #[.bool (!x)] 4 from heap_alloc_new _ _)
          try simp only [List.getElem_toArray, List.getElem_cons_succ, List.getElem_cons_zero, Act.put, List.setIfInBounds_toArray, List.set_cons_zero, List.set_cons_succ]
          refine wpAnyH_ready (rs := [8]) (by kernel_rfl) (by simp) (AllReadyH.cons rfl (fun K hK => ?_) AllReadyH.nil)
          go_simp
          refine (HL1.out _ _ _ ((ML C G g).below M.out.at_ (B5.out)) HSD.out).mono ?_
          rintro e v6 ⟨rfl, bw⟩
          have B6 := Lib.hid ((B5.out).trans (bw.mono (B5.out).size))
          have X6 := Lib.hid (Blk.below (X5.out) bw)
          clear bw
          go_simp
          refine hK.out _ _ trivial (fun hh => ?_)
          have HH' := Lib.hid hh
          clear hh hK K HH
          have HH := Lib.hid HH'.out
          clear HH'
          try simp only [List.getElem_toArray, List.getElem_cons_succ, List.getElem_cons_zero, Act.put, List.setIfInBounds_toArray, List.set_cons_zero, List.set_cons_succ]
          refine wpAnyH_take (i := 9) (v := .int .i64 (k : Int)) rfl (by kernel_rfl) (by kernel_rfl) (by kernel_rfl) (fun _ _ _ h => h) (Or.inl ⟨by rfl, fun w' hw' => ?ym69⟩) HH.out ?_
          case ym69 => (go_simp; exact HKM.out)
          try simp only [List.getElem_toArray, List.getElem_cons_succ, List.getElem_cons_zero, Act.put, List.setIfInBounds_toArray, List.set_cons_zero, List.set_cons_succ]
          refine wpAnyH_ready (rs := [10]) (by kernel_rfl) (by simp) (AllReadyH.cons rfl (fun K hK => ?_) AllReadyH.nil)
          go_simp
          refine (repeat_any (a := ⟨v4.heap.size, 0, none⟩) ((X6.out).cell 0) k HLE.out).mono ?_
          rintro e v9 ⟨q9, rfl, ho9, bw9⟩
          have HS9 := Lib.hid (ml_setrow HR.out M.out.at_ ((B6.out).trans (bw9.mono (B6.out).size)) (own_moreN ho9 (B6.out).size) (List.length_replicate ..) (i := 0) (by omega))
          obtain ⟨⟨u9, c9⟩, f9, _⟩ := ml_rowcell ((ML C G g).below M.out.at_ ((B6.out).trans (bw9.mono (B6.out).size))) (i := 0) (by omega)
          have c9' : v9.cell? ⟨g, 2, none⟩ = some u9 := c9
          have f9' : v9.frozen? ⟨g, 2, none⟩ = false := f9
          clear bw9 ho9 c9 f9
          go_simp
          refine hK.out _ _ trivial (fun hh => ?_)
          have HH' := Lib.hid hh
          clear hh hK K HH
          have HH := Lib.hid HH'.out
          clear HH'
          try simp only [List.getElem_toArray, List.getElem_cons_succ, List.getElem_cons_zero, Act.put, List.setIfInBounds_toArray, List.set_cons_zero, List.set_cons_succ]
          refine wpAnyH_take (i := 13) (v := ?vz613) rfl (by kernel_rfl) (by kernel_rfl) (by kernel_rfl) (fun _ _ _ h => h) (Or.inl ⟨by rfl, fun w' _ => ?yz613⟩) HH.out ?_
          case yz613 => (go_simp; try with_reducible rfl)
          try simp only [List.getElem_toArray, List.getElem_cons_succ, List.getElem_cons_zero, Act.put, List.setIfInBounds_toArray, List.set_cons_zero, List.set_cons_succ]
          refine wpAnyH_ready (rs := [14]) (by kernel_rfl) (by simp) (AllReadyH.cons rfl (fun K hK => ?_) AllReadyH.nil)
          go_simp
          refine hK.out _ _ trivial (fun hh => ?_)
          have HH' := Lib.hid hh
          clear hh hK K HH
          have HH := Lib.hid HH'.out
          clear HH'
          refine wpAnyH_done (by kernel_rfl) ?_ _
          go_wp2_with fail
          go_roundw
          case rel => exact ⟨1, _, _, rfl, M.out.trans HS9.out, HSD.out, .inr (.inl ⟨rfl, by rw [HS.out]; rfl⟩)⟩
          case measure => simp [intOf]
        · skip
          go_simp
          refine (HL1.out _ _ _ ((ML C G g).below M.out.at_ (B4.out)) HSD.out).mono ?_
          rintro e v7 ⟨rfl, bw⟩
          have B7 := Lib.hid ((B4.out).trans (bw.mono (B4.out).size))
          clear bw
          go_simp
          refine hK.out _ _ trivial (fun hh => ?_)
          have HH' := Lib.hid hh
          clear hh hK K HH
          have HH := Lib.hid HH'.out
          clear HH'
          try simp only [List.getElem_toArray, List.getElem_cons_succ, List.getElem_cons_zero, Act.put, List.setIfInBounds_toArray, List.set_cons_zero, List.set_cons_succ]
          refine wpAnyH_take (i := 9) (v := .int .i64 (k : Int)) rfl (by kernel_rfl) (by kernel_rfl) (by kernel_rfl) (fun _ _ _ h => h) (Or.inl ⟨by rfl, fun w' hw' => ?ym79⟩) HH.out ?_
          case ym79 => (go_simp; exact HKM.out)
          try simp only [List.getElem_toArray, List.getElem_cons_succ, List.getElem_cons_zero, Act.put, List.setIfInBounds_toArray, List.set_cons_zero, List.set_cons_succ]
          refine wpAnyH_ready (rs := [4]) (by kernel_rfl) (by simp) (AllReadyH.cons rfl (fun K hK => ?_) AllReadyH.nil)
          go_simp
          refine hK.out _ _ trivial (fun hh => ?_)
          have HH' := Lib.hid hh
          clear hh hK K HH
          have HH := Lib.hid HH'.out
          clear HH'
          have B8 := Lib.hid (show Below wr.heap.size wr (World.alloc v7 (.cells #[.bool (!x)] 4)) from (B7.out).alloc (B7.out).size _)
          have X8 := Lib.hid (show Blk (World.alloc v7 (.cells #[.bool (!x)] 4)) v7.heap.size #[.bool (!x)] 4 from heap_alloc_new _ _)
          try simp only [List.getElem_toArray, List.getElem_cons_succ, List.getElem_cons_zero, Act.put, List.setIfInBounds_toArray, List.set_cons_zero, List.set_cons_succ]
          refine wpAnyH_ready (rs := [10]) (by kernel_rfl) (by simp) (AllReadyH.cons rfl (fun K hK => ?_) AllReadyH.nil)
          go_simp
          refine (repeat_any (a := ⟨v7.heap.size, 0, none⟩) ((X8.out).cell 0) k HLE.out).mono ?_
          rintro e v9 ⟨q9, rfl, ho9, bw9⟩
          have HS9 := Lib.hid (ml_setrow HR.out M.out.at_ ((B8.out).trans (bw9.mono (B8.out).size)) (own_moreN ho9 (B8.out).size) (List.length_replicate ..) (i := 0) (by omega))
          obtain ⟨⟨u9, c9⟩, f9, _⟩ := ml_rowcell ((ML C G g).below M.out.at_ ((B8.out).trans (bw9.mono (B8.out).size))) (i := 0) (by omega)
          have c9' : v9.cell? ⟨g, 2, none⟩ = some u9 := c9
          have f9' : v9.frozen? ⟨g, 2, none⟩ = false := f9
          clear bw9 ho9 c9 f9
          go_simp
          refine hK.out _ _ trivial (fun hh => ?_)
          have HH' := Lib.hid hh
          clear hh hK K HH
          have HH := Lib.hid HH'.out
          clear HH'
          try simp only [List.getElem_toArray, List.getElem_cons_succ, List.getElem_cons_zero, Act.put, List.setIfInBounds_toArray, List.set_cons_zero, List.set_cons_succ]
          refine wpAnyH_take (i := 13) (v := ?vz813) rfl (by kernel_rfl) (by kernel_rfl) (by kernel_rfl) (fun _ _ _ h => h) (Or.inl ⟨by rfl, fun w' _ => ?yz813⟩) HH.out ?_
          case yz813 => (go_simp; try with_reducible rfl)
          try simp only [List.getElem_toArray, List.getElem_cons_succ, List.getElem_cons_zero, Act.put, List.setIfInBounds_toArray, List.set_cons_zero, List.set_cons_succ]
          refine wpAnyH_ready (rs := [14]) (by kernel_rfl) (by simp) (AllReadyH.cons rfl (fun K hK => ?_) AllReadyH.nil)
          go_simp
          refine hK.out _ _ trivial (fun hh => ?_)
          have HH' := Lib.hid hh
          clear hh hK K HH
          have HH := Lib.hid HH'.out
          clear HH'
          refine wpAnyH_done (by kernel_rfl) ?_ _
          go_wp2_with fail
          go_roundw
          case rel => exact ⟨1, _, _, rfl, M.out.trans HS9.out, HSD.out, .inr (.inl ⟨rfl, by rw [HS.out]; rfl⟩)⟩
          case measure => simp [intOf]
    · skip
      have HS := Lib.hid hs
      clear hs
      go_wp2_with (refine wpList_execg8 (o := { dst := some 22, op := .index 177 (.tmp 18) (.tmp 19), type := _, pos := _, after := _, guard := _ }) (v := .bool y) (w' := wr) rfl ?hix ?_; case hix => kernel_rfl)
      refine wp_region_held_drew (S := fun _ => True) (by kernel_rfl) trivial (fun hh => ?_)
      have HH := Lib.hid hh
      clear hh
      refine wpAnyH_take (i := 0) (v := ?vN10) rfl (by kernel_rfl) (by kernel_rfl) (by kernel_rfl) (fun _ _ _ h => h) (Or.inl ⟨by rfl, fun w' _ => ?yN10⟩) HH.out ?_
      case yN10 => (go_simp; try with_reducible rfl)
      refine wpAnyH_take (i := 1) (v := ?vN11) rfl (by kernel_rfl) (by kernel_rfl) (by kernel_rfl) (fun _ _ _ h => h) (Or.inl ⟨by rfl, fun w' _ => ?yN11⟩) HH.out ?_
      case yN11 => (go_simp; try with_reducible rfl)
      try simp only [List.getElem_toArray, List.getElem_cons_succ, List.getElem_cons_zero, Act.put, List.setIfInBounds_toArray, List.set_cons_zero, List.set_cons_succ]
      refine wpAnyH_take (i := 2) (v := ?vN12) rfl (by kernel_rfl) (by kernel_rfl) (by kernel_rfl) (fun _ _ _ h => h) (Or.inl ⟨by rfl, fun w' _ => ?yN12⟩) HH.out ?_
      case yN12 => (go_simp; try with_reducible rfl)
      refine wpAnyH_take (i := 3) (v := ?vN13) rfl (by kernel_rfl) (by kernel_rfl) (by kernel_rfl) (fun _ _ _ h => h) (Or.inl ⟨by rfl, fun w' _ => ?yN13⟩) HH.out ?_
      case yN13 => (go_simp; try with_reducible rfl)
      refine wpAnyH_take (i := 5) (v := ?vN15) rfl (by kernel_rfl) (by kernel_rfl) (by kernel_rfl) (fun _ _ _ h => h) (Or.inl ⟨by rfl, fun w' _ => ?yN15⟩) HH.out ?_
      case yN15 => (go_simp; try with_reducible rfl)
      try simp only [List.getElem_toArray, List.getElem_cons_succ, List.getElem_cons_zero, Act.put, List.setIfInBounds_toArray, List.set_cons_zero, List.set_cons_succ]
      refine wpAnyH_take (i := 7) (v := ?vN17) rfl (by kernel_rfl) (by kernel_rfl) (by kernel_rfl) (fun _ _ _ h => h) (Or.inl ⟨by rfl, fun w' _ => ?yN17⟩) HH.out ?_
      case yN17 => (go_simp; try with_reducible rfl)
      refine wpAnyH_take (i := 11) (v := ?vN111) rfl (by kernel_rfl) (by kernel_rfl) (by kernel_rfl) (fun _ _ _ h => h) (Or.inl ⟨by rfl, fun w' _ => ?yN111⟩) HH.out ?_
      case yN111 => (go_simp; try with_reducible rfl)
      refine wpAnyH_take (i := 12) (v := ?vN112) rfl (by kernel_rfl) (by kernel_rfl) (by kernel_rfl) (fun _ _ _ h => h) (Or.inl ⟨by rfl, fun w' _ => ?yN112⟩) HH.out ?_
      case yN112 => (go_simp; try with_reducible rfl)
      try simp only [List.getElem_toArray, List.getElem_cons_succ, List.getElem_cons_zero, Act.put, List.setIfInBounds_toArray, List.set_cons_zero, List.set_cons_succ]
      refine wpAnyH_ready (rs := [4, 6]) (by kernel_rfl) (by simp) (AllReadyH.cons rfl (fun K hK => ?_) (AllReadyH.cons rfl (fun K hK => ?_) AllReadyH.nil))
      · skip
        go_simp
        refine hK.out _ _ trivial (fun hh => ?_)
        have HH' := Lib.hid hh
        clear hh hK K HH
        have HH := Lib.hid HH'.out
        clear HH'
        have B9 := Lib.hid (show Below wr.heap.size wr (World.alloc wr.drew (.cells #[.bool (!y)] 4)) from ((Below.refl wr.heap.size wr).drew).alloc ((Below.refl wr.heap.size wr).drew).size _)
        have X9 := Lib.hid (show Blk (World.alloc wr.drew (.cells #[.bool (!y)] 4)) wr.drew.heap.size #[.bool (!y)] 4 from heap_alloc_new _ _)
        try simp only [List.getElem_toArray, List.getElem_cons_succ, List.getElem_cons_zero, Act.put, List.setIfInBounds_toArray, List.set_cons_zero, List.set_cons_succ]
        refine wpAnyH_ready (rs := [6]) (by kernel_rfl) (by simp) (AllReadyH.cons rfl (fun K hK => ?_) AllReadyH.nil)
        go_simp
        refine (HL0.out _ _ _ ((ML C G g).below M.out.at_ (B9.out)) HSD.out).mono ?_
        rintro e v10 ⟨rfl, bw⟩
        have B10 := Lib.hid ((B9.out).trans (bw.mono (B9.out).size))
        have X10 := Lib.hid (Blk.below (X9.out) bw)
        clear bw
        go_simp
        refine hK.out _ _ trivial (fun hh => ?_)
        have HH' := Lib.hid hh
        clear hh hK K HH
        have HH := Lib.hid HH'.out
        clear HH'
        try simp only [List.getElem_toArray, List.getElem_cons_succ, List.getElem_cons_zero, Act.put, List.setIfInBounds_toArray, List.set_cons_zero, List.set_cons_succ]
        refine wpAnyH_ready (rs := [8]) (by kernel_rfl) (by simp) (AllReadyH.cons rfl (fun K hK => ?_) AllReadyH.nil)
        go_simp
        refine (HL1.out _ _ _ ((ML C G g).below M.out.at_ (B10.out)) HSD.out).mono ?_
        rintro e v11 ⟨rfl, bw⟩
        have B11 := Lib.hid ((B10.out).trans (bw.mono (B10.out).size))
        have X11 := Lib.hid (Blk.below (X10.out) bw)
        clear bw
        go_simp
        refine hK.out _ _ trivial (fun hh => ?_)
        have HH' := Lib.hid hh
        clear hh hK K HH
        have HH := Lib.hid HH'.out
        clear HH'
        try simp only [List.getElem_toArray, List.getElem_cons_succ, List.getElem_cons_zero, Act.put, List.setIfInBounds_toArray, List.set_cons_zero, List.set_cons_succ]
        refine wpAnyH_take (i := 9) (v := .int .i64 (k : Int)) rfl (by kernel_rfl) (by kernel_rfl) (by kernel_rfl) (fun _ _ _ h => h) (Or.inl ⟨by rfl, fun w' hw' => ?ym119⟩) HH.out ?_
        case ym119 => (go_simp; exact HKM.out)
        try simp only [List.getElem_toArray, List.getElem_cons_succ, List.getElem_cons_zero, Act.put, List.setIfInBounds_toArray, List.set_cons_zero, List.set_cons_succ]
        refine wpAnyH_ready (rs := [10]) (by kernel_rfl) (by simp) (AllReadyH.cons rfl (fun K hK => ?_) AllReadyH.nil)
        go_simp
        refine (repeat_any (a := ⟨wr.drew.heap.size, 0, none⟩) ((X11.out).cell 0) k HLE.out).mono ?_
        rintro e v9 ⟨q9, rfl, ho9, bw9⟩
        have HS9 := Lib.hid (ml_setrow HR.out M.out.at_ ((B11.out).trans (bw9.mono (B11.out).size)) (own_moreN ho9 (B11.out).size) (List.length_replicate ..) (i := 1) (by omega))
        obtain ⟨⟨u9, c9⟩, f9, _⟩ := ml_rowcell ((ML C G g).below M.out.at_ ((B11.out).trans (bw9.mono (B11.out).size))) (i := 1) (by omega)
        have c9' : v9.cell? ⟨g, 3, none⟩ = some u9 := c9
        have f9' : v9.frozen? ⟨g, 3, none⟩ = false := f9
        clear bw9 ho9 c9 f9
        go_simp
        refine hK.out _ _ trivial (fun hh => ?_)
        have HH' := Lib.hid hh
        clear hh hK K HH
        have HH := Lib.hid HH'.out
        clear HH'
        try simp only [List.getElem_toArray, List.getElem_cons_succ, List.getElem_cons_zero, Act.put, List.setIfInBounds_toArray, List.set_cons_zero, List.set_cons_succ]
        refine wpAnyH_take (i := 13) (v := ?vz1113) rfl (by kernel_rfl) (by kernel_rfl) (by kernel_rfl) (fun _ _ _ h => h) (Or.inl ⟨by rfl, fun w' _ => ?yz1113⟩) HH.out ?_
        case yz1113 => (go_simp; try with_reducible rfl)
        try simp only [List.getElem_toArray, List.getElem_cons_succ, List.getElem_cons_zero, Act.put, List.setIfInBounds_toArray, List.set_cons_zero, List.set_cons_succ]
        refine wpAnyH_ready (rs := [14]) (by kernel_rfl) (by simp) (AllReadyH.cons rfl (fun K hK => ?_) AllReadyH.nil)
        go_simp
        refine hK.out _ _ trivial (fun hh => ?_)
        have HH' := Lib.hid hh
        clear hh hK K HH
        have HH := Lib.hid HH'.out
        clear HH'
        refine wpAnyH_done (by kernel_rfl) ?_ _
        go_wp2_with fail
        go_roundw
        case rel => exact ⟨2, _, _, rfl, M.out.trans HS9.out, HSD.out, .inr (.inr ⟨rfl, by rw [HS.out]; rfl⟩)⟩
        case measure => simp [intOf]
      · skip
        go_simp
        refine (HL0.out _ _ _ ((ML C G g).below M.out.at_ ((Below.refl wr.heap.size wr).drew)) HSD.out).mono ?_
        rintro e v12 ⟨rfl, bw⟩
        have B12 := Lib.hid (((Below.refl wr.heap.size wr).drew).trans (bw.mono ((Below.refl wr.heap.size wr).drew).size))
        clear bw
        go_simp
        refine hK.out _ _ trivial (fun hh => ?_)
        have HH' := Lib.hid hh
        clear hh hK K HH
        have HH := Lib.hid HH'.out
        clear HH'
        try simp only [List.getElem_toArray, List.getElem_cons_succ, List.getElem_cons_zero, Act.put, List.setIfInBounds_toArray, List.set_cons_zero, List.set_cons_succ]
        refine wpAnyH_ready (rs := [4, 8]) (by kernel_rfl) (by simp) (AllReadyH.cons rfl (fun K hK => ?_) (AllReadyH.cons rfl (fun K hK => ?_) AllReadyH.nil))
        · skip
          go_simp
          refine hK.out _ _ trivial (fun hh => ?_)
          have HH' := Lib.hid hh
          clear hh hK K HH
          have HH := Lib.hid HH'.out
          clear HH'
          have B13 := Lib.hid (show Below wr.heap.size wr (World.alloc v12 (.cells #[.bool (!y)] 4)) from (B12.out).alloc (B12.out).size _)
          have X13 := Lib.hid (show Blk (World.alloc v12 (.cells #[.bool (!y)] 4)) v12.heap.size #[.bool (!y)] 4 from heap_alloc_new _ _)
          try simp only [List.getElem_toArray, List.getElem_cons_succ, List.getElem_cons_zero, Act.put, List.setIfInBounds_toArray, List.set_cons_zero, List.set_cons_succ]
          refine wpAnyH_ready (rs := [8]) (by kernel_rfl) (by simp) (AllReadyH.cons rfl (fun K hK => ?_) AllReadyH.nil)
          go_simp
          refine (HL1.out _ _ _ ((ML C G g).below M.out.at_ (B13.out)) HSD.out).mono ?_
          rintro e v14 ⟨rfl, bw⟩
          have B14 := Lib.hid ((B13.out).trans (bw.mono (B13.out).size))
          have X14 := Lib.hid (Blk.below (X13.out) bw)
          clear bw
          go_simp
          refine hK.out _ _ trivial (fun hh => ?_)
          have HH' := Lib.hid hh
          clear hh hK K HH
          have HH := Lib.hid HH'.out
          clear HH'
          try simp only [List.getElem_toArray, List.getElem_cons_succ, List.getElem_cons_zero, Act.put, List.setIfInBounds_toArray, List.set_cons_zero, List.set_cons_succ]
          refine wpAnyH_take (i := 9) (v := .int .i64 (k : Int)) rfl (by kernel_rfl) (by kernel_rfl) (by kernel_rfl) (fun _ _ _ h => h) (Or.inl ⟨by rfl, fun w' hw' => ?ym149⟩) HH.out ?_
          case ym149 => (go_simp; exact HKM.out)
          try simp only [List.getElem_toArray, List.getElem_cons_succ, List.getElem_cons_zero, Act.put, List.setIfInBounds_toArray, List.set_cons_zero, List.set_cons_succ]
          refine wpAnyH_ready (rs := [10]) (by kernel_rfl) (by simp) (AllReadyH.cons rfl (fun K hK => ?_) AllReadyH.nil)
          go_simp
          refine (repeat_any (a := ⟨v12.heap.size, 0, none⟩) ((X14.out).cell 0) k HLE.out).mono ?_
          rintro e v9 ⟨q9, rfl, ho9, bw9⟩
          have HS9 := Lib.hid (ml_setrow HR.out M.out.at_ ((B14.out).trans (bw9.mono (B14.out).size)) (own_moreN ho9 (B14.out).size) (List.length_replicate ..) (i := 1) (by omega))
          obtain ⟨⟨u9, c9⟩, f9, _⟩ := ml_rowcell ((ML C G g).below M.out.at_ ((B14.out).trans (bw9.mono (B14.out).size))) (i := 1) (by omega)
          have c9' : v9.cell? ⟨g, 3, none⟩ = some u9 := c9
          have f9' : v9.frozen? ⟨g, 3, none⟩ = false := f9
          clear bw9 ho9 c9 f9
          go_simp
          refine hK.out _ _ trivial (fun hh => ?_)
          have HH' := Lib.hid hh
          clear hh hK K HH
          have HH := Lib.hid HH'.out
          clear HH'
          try simp only [List.getElem_toArray, List.getElem_cons_succ, List.getElem_cons_zero, Act.put, List.setIfInBounds_toArray, List.set_cons_zero, List.set_cons_succ]
          refine wpAnyH_take (i := 13) (v := ?vz1413) rfl (by kernel_rfl) (by kernel_rfl) (by kernel_rfl) (fun _ _ _ h => h) (Or.inl ⟨by rfl, fun w' _ => ?yz1413⟩) HH.out ?_
          case yz1413 => (go_simp; try with_reducible rfl)
          try simp only [List.getElem_toArray, List.getElem_cons_succ, List.getElem_cons_zero, Act.put, List.setIfInBounds_toArray, List.set_cons_zero, List.set_cons_succ]
          refine wpAnyH_ready (rs := [14]) (by kernel_rfl) (by simp) (AllReadyH.cons rfl (fun K hK => ?_) AllReadyH.nil)
          go_simp
          refine hK.out _ _ trivial (fun hh => ?_)
          have HH' := Lib.hid hh
          clear hh hK K HH
          have HH := Lib.hid HH'.out
          clear HH'
          refine wpAnyH_done (by kernel_rfl) ?_ _
          go_wp2_with fail
          go_roundw
          case rel => exact ⟨2, _, _, rfl, M.out.trans HS9.out, HSD.out, .inr (.inr ⟨rfl, by rw [HS.out]; rfl⟩)⟩
          case measure => simp [intOf]
        · skip
          go_simp
          refine (HL1.out _ _ _ ((ML C G g).below M.out.at_ (B12.out)) HSD.out).mono ?_
          rintro e v15 ⟨rfl, bw⟩
          have B15 := Lib.hid ((B12.out).trans (bw.mono (B12.out).size))
          clear bw
          go_simp
          refine hK.out _ _ trivial (fun hh => ?_)
          have HH' := Lib.hid hh
          clear hh hK K HH
          have HH := Lib.hid HH'.out
          clear HH'
          try simp only [List.getElem_toArray, List.getElem_cons_succ, List.getElem_cons_zero, Act.put, List.setIfInBounds_toArray, List.set_cons_zero, List.set_cons_succ]
          refine wpAnyH_take (i := 9) (v := .int .i64 (k : Int)) rfl (by kernel_rfl) (by kernel_rfl) (by kernel_rfl) (fun _ _ _ h => h) (Or.inl ⟨by rfl, fun w' hw' => ?ym159⟩) HH.out ?_
          case ym159 => (go_simp; exact HKM.out)
          try simp only [List.getElem_toArray, List.getElem_cons_succ, List.getElem_cons_zero, Act.put, List.setIfInBounds_toArray, List.set_cons_zero, List.set_cons_succ]
          refine wpAnyH_ready (rs := [4]) (by kernel_rfl) (by simp) (AllReadyH.cons rfl (fun K hK => ?_) AllReadyH.nil)
          go_simp
          refine hK.out _ _ trivial (fun hh => ?_)
          have HH' := Lib.hid hh
          clear hh hK K HH
          have HH := Lib.hid HH'.out
          clear HH'
          have B16 := Lib.hid (show Below wr.heap.size wr (World.alloc v15 (.cells #[.bool (!y)] 4)) from (B15.out).alloc (B15.out).size _)
          have X16 := Lib.hid (show Blk (World.alloc v15 (.cells #[.bool (!y)] 4)) v15.heap.size #[.bool (!y)] 4 from heap_alloc_new _ _)
          try simp only [List.getElem_toArray, List.getElem_cons_succ, List.getElem_cons_zero, Act.put, List.setIfInBounds_toArray, List.set_cons_zero, List.set_cons_succ]
          refine wpAnyH_ready (rs := [10]) (by kernel_rfl) (by simp) (AllReadyH.cons rfl (fun K hK => ?_) AllReadyH.nil)
          go_simp
          refine (repeat_any (a := ⟨v15.heap.size, 0, none⟩) ((X16.out).cell 0) k HLE.out).mono ?_
          rintro e v9 ⟨q9, rfl, ho9, bw9⟩
          have HS9 := Lib.hid (ml_setrow HR.out M.out.at_ ((B16.out).trans (bw9.mono (B16.out).size)) (own_moreN ho9 (B16.out).size) (List.length_replicate ..) (i := 1) (by omega))
          obtain ⟨⟨u9, c9⟩, f9, _⟩ := ml_rowcell ((ML C G g).below M.out.at_ ((B16.out).trans (bw9.mono (B16.out).size))) (i := 1) (by omega)
          have c9' : v9.cell? ⟨g, 3, none⟩ = some u9 := c9
          have f9' : v9.frozen? ⟨g, 3, none⟩ = false := f9
          clear bw9 ho9 c9 f9
          go_simp
          refine hK.out _ _ trivial (fun hh => ?_)
          have HH' := Lib.hid hh
          clear hh hK K HH
          have HH := Lib.hid HH'.out
          clear HH'
          try simp only [List.getElem_toArray, List.getElem_cons_succ, List.getElem_cons_zero, Act.put, List.setIfInBounds_toArray, List.set_cons_zero, List.set_cons_succ]
          refine wpAnyH_take (i := 13) (v := ?vz1613) rfl (by kernel_rfl) (by kernel_rfl) (by kernel_rfl) (fun _ _ _ h => h) (Or.inl ⟨by rfl, fun w' _ => ?yz1613⟩) HH.out ?_
          case yz1613 => (go_simp; try with_reducible rfl)
          try simp only [List.getElem_toArray, List.getElem_cons_succ, List.getElem_cons_zero, Act.put, List.setIfInBounds_toArray, List.set_cons_zero, List.set_cons_succ]
          refine wpAnyH_ready (rs := [14]) (by kernel_rfl) (by simp) (AllReadyH.cons rfl (fun K hK => ?_) AllReadyH.nil)
          go_simp
          refine hK.out _ _ trivial (fun hh => ?_)
          have HH' := Lib.hid hh
          clear hh hK K HH
          have HH := Lib.hid HH'.out
          clear HH'
          refine wpAnyH_done (by kernel_rfl) ?_ _
          go_wp2_with fail
          go_roundw
          case rel => exact ⟨2, _, _, rfl, M.out.trans HS9.out, HSD.out, .inr (.inr ⟨rfl, by rw [HS.out]; rfl⟩)⟩
          case measure => simp [intOf]
    · have HS := Lib.hid hs
      clear hs
      go_wp2_with fail
      go_ret
      refine ⟨g, F', rfl, by rw [← HS.out]; exact M.out.at_, fun q hq => ?_, ?_⟩
      · rcases M.out.new q hq with (h1 | h1) | h1
        · exact .inl h1
        · exact .inr (by rw [h1, HG.out]; exact Nat.le_refl _)
        · exact .inr (Nat.le_trans BW1.out.size h1)
      · exact but_step (but_below (T := FF) BW1.out) M.out.but (fun q hq => hq.imp id (fun e => by rw [e, HG.out]; exact Nat.le_refl _))
theorem new_any (hR : ∀ A n c B m e, G.R A n c B m e) {d : C.L.St} (h : C.L.At w d F1) (hl : G.l = [] := by rfl) :
    Calls Try.prog 42 #[.pointer (C.ptr 0), .pointer (C.ptr 1), G.v] w (fun e w' => ∃ g F', e = .returned (.pointer (some ⟨g, 0, none⟩)) ∧ (ML C G g).At w' (newM C d) F' ∧ (∀ q, F' q → F1 q ∨ w.heap.size ≤ q) ∧ But F1 w w') := by
  have hF : (fun x => F1 x ∨ ∃ y ∈ G.l, x = y.1) = F1 := funext fun x => propext ⟨fun hx => hx.elim id (fun ⟨y, hy, _⟩ => by rw [hl] at hy; cases hy), .inl⟩
  exact new_anyG hR h (fun x hx => by rw [hl] at hx; cases hx) hF.symm
end
end Go.Proofs.Ythadomboiockhaa.Mi
/-
  A mirror of two devices of powers of their own that never fail, as the document tells of it: two lists, which of them are there, what is stale. No program.
-/
namespace Go.Proofs.Ythadomboiockhaa.Mi
open Kd
structure Md where
  l0 : List (List UInt8)
  l1 : List (List UInt8)
  o0 : Bool
  o1 : Bool
  a : List Bool
  b : List Bool
def Md.l (x : Md) (i : Nat) : List (List UInt8) := if i = 0 then x.l0 else x.l1
def Md.o (x : Md) (i : Nat) : Bool := if i = 0 then x.o0 else x.o1
def Md.st (x : Md) (i : Nat) : List Bool := if i = 0 then x.a else x.b
def Md.setL (x : Md) (i k : Nat) (y : List UInt8) : Md := if i = 0 then { x with l0 := x.l0.set k y } else { x with l1 := x.l1.set k y }
def Md.put (x : Md) (i k : Nat) (v : Bool) : Md := if i = 0 then { x with a := x.a.set k v } else { x with b := x.b.set k v }
/-- A sector is written to a device, if it is there. -/
def Md.wd (x : Md) (i k : Nat) (y : List UInt8) : Md := if x.o i then x else x.setL i k y
def Md.has (x : Md) (n : Int) : Bool := decide (0 ≤ n) && decide (n < x.a.length)
section
variable {p1 g1 p2 g2 : Nat}
abbrev Two (p1 g1 p2 g2 : Nat) : Duo := duo (uno p1 g1) (uno p2 g2)
structure Sees (s : Mr (Two p1 g1 p2 g2)) (x : Md) (m : Nat) : Prop where
  d0 : See s.d.1 x.l0 x.o0 m
  d1 : See s.d.2 x.l1 x.o1 m
  a : s.a = x.a
  b : s.b = x.b
  n0 : x.l0.length = x.a.length
  n1 : x.l1.length = x.a.length
  nb : x.b.length = x.a.length
variable {s : Mr (Two p1 g1 p2 g2)} {x : Md} {m : Nat} {G : Gd}
theorem Sees.more (h : Sees s x m) {m' : Nat} (hm : m ≤ m') : Sees s x m' := ⟨h.d0.more hm, h.d1.more hm, h.a, h.b, h.n0, h.n1, h.nb⟩
theorem Sees.ok (h : Sees s x m) : s.ok x.a.length := ⟨by rw [h.a], by rw [h.b]; exact h.nb⟩
theorem Sees.st (h : Sees s x m) (i : Nat) : s.st i = x.st i := by
  unfold Mr.st Md.st; split
  · exact h.a
  · exact h.b
theorem Sees.most (h : Sees s x m) : (Two p1 g1 p2 g2).most s.d ≤ m := by
  have h0 := h.d0.few
  have h1 := h.d1.few
  show max (mostS s.d.1) (mostS s.d.2) ≤ m
  unfold mostS
  rw [if_pos h.d0.ds, if_pos h.d1.ds]
  omega
theorem Sees.has (h : Sees s x m) (n : Int) : Mi.has s n = x.has n := by rw [Mi.has, Md.has, h.a]
theorem Sees.rd (h : Sees s x m) {i : Nat} (hi : i < 2) (n : Int) :
    (Two p1 g1 p2 g2).rd s.d i n = (if x.o i then 13 else if n < 0 ∨ (x.a.length : Int) ≤ n then 2 else 0, if x.o i = false ∧ 0 ≤ n ∧ n < (x.a.length : Int) then (x.l i).getD n.toNat zeroS else zeroS) := by
  rcases two hi with rfl | rfl
  · show (refuseN s.d.1.p (s.d.1.at 0) n, readS s.d.1.p (s.d.1.at 0) n) = _
    rw [h.d0.refuse, h.d0.read, h.n0]; rfl
  · show (refuseN s.d.2.p (s.d.2.at 0) n, readS s.d.2.p (s.d.2.at 0) n) = _
    rw [h.d1.refuse, h.d1.read, h.n1]; rfl
theorem Sees.there (h : Sees s x m) {i : Nat} (hi : i < 2) : (Two p1 g1 p2 g2).there s.d i = !(x.o i) := by
  have hp : ((Two p1 g1 p2 g2).ptr i).isSome = true := by rcases two hi with rfl | rfl <;> rfl
  rw [Duo.there, hp, h.rd hi]
  cases x.o i
  · show (true && ((if false = true then (13 : Int) else if (0 : Int) < 0 ∨ (x.a.length : Int) ≤ 0 then 2 else 0) != 13)) = true
    rw [if_neg (by simp)]
    split <;> rfl
  · rfl
/-- A place's reading. -/
theorem Sees.rd_at (h : Sees s x m) {i k : Nat} (hi : i < 2) (hk : k < x.a.length) : (Two p1 g1 p2 g2).rd s.d i (k : Int) = (if x.o i then 13 else 0, if x.o i then zeroS else (x.l i).getD k zeroS) := by
  rw [h.rd hi]
  cases x.o i
  · simp only [Bool.false_eq_true, if_false, true_and]
    rw [if_neg (by omega), if_pos ⟨by omega, by omega⟩, Int.toNat_natCast]
  · simp
theorem Sees.rdOk (h : Sees s x m) {i k : Nat} (hi : i < 2) (hk : k < x.a.length) : Mi.rdOk (Two p1 g1 p2 g2) G s.d i (k : Int) = (!(x.o i) && G.f k ((x.l i).getD k zeroS)) := by
  rw [Mi.rdOk, h.rd_at hi hk]
  cases x.o i <;> rfl
/-- Does a device have a place right? -/
def Md.right (f : Int → List UInt8 → Bool) (x : Md) (i k : Nat) : Bool := !((x.st i).getD k false) && (!(x.o i) && f k ((x.l i).getD k zeroS))
theorem Sees.right (h : Sees s x m) {i k : Nat} (hi : i < 2) (hk : k < x.a.length) : Mi.right (Two p1 g1 p2 g2) G s i k = x.right G.f i k := by
  rw [Mi.right, Md.right, h.st, h.rdOk hi hk]
theorem Sees.rightV (h : Sees s x m) {i k : Nat} (hi : i < 2) (hk : k < x.a.length) (hr : x.right G.f i k = true) : Mi.rightV (Two p1 g1 p2 g2) G s i k = (x.l i).getD k zeroS := by
  have ho : x.o i = false := by
    rw [Md.right] at hr
    cases ho : x.o i
    · rfl
    · rw [ho] at hr; simp at hr
  rw [Mi.rightV, h.right hi hk, hr, if_pos rfl, h.rd_at hi hk, ho]; rfl
/-! ### Writing -/
theorem Sees.put (h : Sees s x m) (i k : Nat) (v : Bool) : Sees (s.put i k v) (x.put i k v) m := by
  unfold Mr.put Md.put
  split
  · exact ⟨h.d0, h.d1, by show s.a.set k v = x.a.set k v; rw [h.a], h.b, by show x.l0.length = (x.a.set k v).length; rw [List.length_set]; exact h.n0, by show x.l1.length = (x.a.set k v).length; rw [List.length_set]; exact h.n1, by show x.b.length = (x.a.set k v).length; rw [List.length_set]; exact h.nb⟩
  · exact ⟨h.d0, h.d1, h.a, by show s.b.set k v = x.b.set k v; rw [h.b], h.n0, h.n1, by show (x.b.set k v).length = x.a.length; rw [List.length_set]; exact h.nb⟩
theorem Sees.wd (h : Sees s x m) {i k : Nat} (hi : i < 2) (hk : k < x.a.length) (y : List UInt8) :
    ((Two p1 g1 p2 g2).wr s.d i (k : Int) y).1 = (if x.o i then 13 else 0) ∧ Sees (s.dev ((Two p1 g1 p2 g2).wr s.d i (k : Int) y).2) (x.wd i k y) (m + 1) := by
  rcases two hi with rfl | rfl
  · cases ho : x.o0 with
    | true =>
      have hw := h.d0.write_no (n := (k : Int)) (x := y) (by rw [ho]; simp)
      have e : (Two p1 g1 p2 g2).wr s.d 0 (k : Int) y = (13, s.d) := by
        show ((s.d.1.write 0 k y).1, ((s.d.1.write 0 k y).2, s.d.2)) = _
        rw [hw, ho]; rfl
      rw [e]
      refine ⟨by rw [show x.o 0 = true from ho]; rfl, ?_⟩
      rw [Md.wd, show x.o 0 = true from ho, if_pos rfl]
      exact h.more (Nat.le_succ _)
    | false =>
      obtain ⟨h1, h2⟩ := h.d0.write_yes (x := y) ho (k := k) (by rw [h.n0]; exact hk)
      refine ⟨by show (s.d.1.write 0 k y).1 = _; rw [h1, show x.o 0 = false from ho]; rfl, ?_⟩
      rw [Md.wd, show x.o 0 = false from ho, if_neg (by simp)]
      exact ⟨h2, h.d1.more (Nat.le_succ _), h.a, h.b, by show (x.l0.set k y).length = _; rw [List.length_set]; exact h.n0, h.n1, h.nb⟩
  · cases ho : x.o1 with
    | true =>
      have hw := h.d1.write_no (n := (k : Int)) (x := y) (by rw [ho]; simp)
      have e : (Two p1 g1 p2 g2).wr s.d 1 (k : Int) y = (13, s.d) := by
        show ((s.d.2.write 0 k y).1, (s.d.1, (s.d.2.write 0 k y).2)) = _
        rw [hw, ho]; rfl
      rw [e]
      refine ⟨by rw [show x.o 1 = true from ho]; rfl, ?_⟩
      rw [Md.wd, show x.o 1 = true from ho, if_pos rfl]
      exact h.more (Nat.le_succ _)
    | false =>
      obtain ⟨h1, h2⟩ := h.d1.write_yes (x := y) ho (k := k) (by rw [h.n1]; exact hk)
      refine ⟨by show (s.d.2.write 0 k y).1 = _; rw [h1, show x.o 1 = false from ho]; rfl, ?_⟩
      rw [Md.wd, show x.o 1 = false from ho, if_neg (by simp)]
      exact ⟨h.d0.more (Nat.le_succ _), h2, h.a, h.b, h.n0, by show (x.l1.set k y).length = _; rw [List.length_set]; exact h.n1, h.nb⟩
theorem wd_o (x : Md) (i k j : Nat) (y : List UInt8) : (x.wd i k y).o j = x.o j := by
  unfold Md.wd Md.setL Md.o; (repeat' split) <;> rfl
theorem wd_a (x : Md) (i k : Nat) (y : List UInt8) : (x.wd i k y).a = x.a := by
  unfold Md.wd Md.setL; (repeat' split) <;> rfl
/-- What Write, and Choose, tell and make of it. -/
def Md.write (x : Md) (n : Int) (y : List UInt8) : Int × Md :=
  if x.has n then (if x.o0 && x.o1 then (13, x) else (0, (((x.wd 0 n.toNat y).wd 1 n.toNat y).put 0 n.toNat x.o0).put 1 n.toNat x.o1)) else (2, x)
theorem has_place {x : Md} {n : Int} (h : x.has n = true) : ∃ k : Nat, n = (k : Int) ∧ k < x.a.length := by
  rw [Md.has] at h
  simp at h
  exact ⟨n.toNat, by omega, by omega⟩
theorem eq13 (o : Bool) : ((if o then (13 : Int) else 0) == 0) = !o := by cases o <;> rfl
theorem Sees.write (h : Sees s x m) (n : Int) (y : List UInt8) : (s.write n y).1 = (x.write n y).1 ∧ Sees (s.write n y).2 (x.write n y).2 (m + 2) := by
  rw [Mr.write, Md.write, h.has]
  cases hh : x.has n with
  | false => exact ⟨rfl, h.more (by omega)⟩
  | true =>
    obtain ⟨k, rfl, hk⟩ := has_place hh
    rw [if_pos rfl, if_pos rfl, Int.toNat_natCast]
    obtain ⟨e0, h0⟩ := h.wd (i := 0) (by omega) hk y
    obtain ⟨e1, h1⟩ := h0.wd (i := 1) (by omega) (by rw [wd_a]; exact hk) y
    have e1' : ((Two p1 g1 p2 g2).wr (s.w0 (k : Int) y 0).d 1 (k : Int) y).1 = _ := e1
    rw [wd_o] at e1'
    rw [e0, e1', eq13, eq13]
    have h2 : Sees ((s.w0 (k : Int) y 0).w0 (k : Int) y 1) ((x.wd 0 k y).wd 1 k y) (m + 1 + 1) := h1
    rw [Mr.reach, show x.o 0 = x.o0 from rfl, show x.o 1 = x.o1 from rfl]
    cases ho0 : x.o0 <;> cases ho1 : x.o1
    · exact ⟨rfl, (h2.put 0 k false).put 1 k false⟩
    · exact ⟨rfl, (h2.put 0 k false).put 1 k true⟩
    · exact ⟨rfl, (h2.put 0 k true).put 1 k false⟩
    · refine ⟨rfl, ?_⟩
      have hx : (x.wd 0 k y).wd 1 k y = x := by
        have h3 : x.wd 0 k y = x := by rw [Md.wd, show x.o 0 = true from ho0, if_pos rfl]
        rw [h3, Md.wd, show x.o 1 = true from ho1, if_pos rfl]
      rw [hx] at h2
      exact h2
end
end Go.Proofs.Ythadomboiockhaa.Mi
/-
  .. and what Choose, Flush, Read, Heal, Both, Sync, New, Out and Rot make of it. No program.
-/
namespace Go.Proofs.Ythadomboiockhaa.Mi
open Kd
section
variable {p1 g1 p2 g2 : Nat} {s : Mr (Two p1 g1 p2 g2)} {x : Md} {m : Nat} {G : Gd}
theorem list_set_self {α : Type} (l : List α) (k : Nat) (d : α) : l.set k (l.getD k d) = l := by
  apply List.ext_getElem?
  intro j
  rw [List.getElem?_set]
  split
  · rename_i h; subst h
    split
    · rename_i h; rw [List.getD_eq_getElem?_getD, List.getElem?_eq_getElem h]; rfl
    · rename_i h; rw [List.getElem?_eq_none (by omega)]
  · rfl
theorem wd_same {i k : Nat} (h : x.o i = false) : x.wd i k ((x.l i).getD k zeroS) = x := by
  rw [Md.wd, h, if_neg (by simp), Md.setL]
  unfold Md.l
  split
  · show { x with l0 := x.l0.set k (x.l0.getD k zeroS) } = x
    rw [list_set_self]
  · show { x with l1 := x.l1.set k (x.l1.getD k zeroS) } = x
    rw [list_set_self]
theorem Sees.c1 (h : Sees s x m) {i k : Nat} (hi : i < 2) (hk : k < x.a.length) (y : List UInt8) : (s.c1 (k : Int) y i).1 = !(x.o i) ∧ Sees (s.c1 (k : Int) y i).2 (x.wd i k y) (m + 1) := by
  obtain ⟨e, hw⟩ := h.wd hi hk y
  rw [Mr.c1, h.rd_at hi hk]
  cases ho : x.o i with
  | true =>
    rw [if_neg (by simp)]
    refine ⟨rfl, ?_⟩
    rw [Md.wd, ho, if_pos rfl]
    exact h.more (Nat.le_succ _)
  | false =>
    rw [if_pos (by simp)]
    by_cases hy : (x.l i).getD k zeroS = y
    · rw [if_pos (by simpa using hy)]
      refine ⟨rfl, ?_⟩
      rw [← hy, wd_same ho]
      exact h.more (Nat.le_succ _)
    · rw [if_neg (by simpa using hy)]
      exact ⟨by rw [e, eq13, ho], hw⟩
theorem Sees.choose (h : Sees s x m) (n : Int) (y : List UInt8) : (s.choose n y).1 = (x.write n y).1 ∧ Sees (s.choose n y).2 (x.write n y).2 (m + 2) := by
  rw [Mr.choose, Md.write, h.has]
  cases hh : x.has n with
  | false => exact ⟨rfl, h.more (by omega)⟩
  | true =>
    obtain ⟨k, rfl, hk⟩ := has_place hh
    rw [if_pos rfl, if_pos rfl, Int.toNat_natCast]
    obtain ⟨e0, h0⟩ := h.c1 (i := 0) (by omega) hk y
    obtain ⟨e1, h1⟩ := h0.c1 (i := 1) (by omega) (by rw [wd_a]; exact hk) y
    rw [wd_o] at e1
    rw [e0, e1]
    have h2 : Sees ((s.c1 (k : Int) y 0).2.c1 (k : Int) y 1).2 ((x.wd 0 k y).wd 1 k y) (m + 1 + 1) := h1
    rw [Mr.reach, show x.o 0 = x.o0 from rfl, show x.o 1 = x.o1 from rfl]
    cases ho0 : x.o0 <;> cases ho1 : x.o1
    · exact ⟨rfl, (h2.put 0 k false).put 1 k false⟩
    · exact ⟨rfl, (h2.put 0 k false).put 1 k true⟩
    · exact ⟨rfl, (h2.put 0 k true).put 1 k false⟩
    · refine ⟨rfl, ?_⟩
      have hx : (x.wd 0 k y).wd 1 k y = x := by
        have h3 : x.wd 0 k y = x := by rw [Md.wd, show x.o 0 = true from ho0, if_pos rfl]
        rw [h3, Md.wd, show x.o 1 = true from ho1, if_pos rfl]
      rw [hx] at h2
      exact h2
/-! ### Flushing: m is 0 of what is out -/
/-- Nothing waits of a device that is out. -/
structure Dry (s : Mr (Two p1 g1 p2 g2)) (x : Md) : Prop where
  d0 : x.o0 = true → See s.d.1 x.l0 x.o0 0
  d1 : x.o1 = true → See s.d.2 x.l1 x.o1 0
theorem Sees.dry (h : Sees s x 0) : Dry s x := ⟨fun _ => h.d0, fun _ => h.d1⟩
theorem Dry.put (h : Dry s x) (i k : Nat) (v : Bool) : Dry (s.put i k v) (x.put i k v) := by
  unfold Mr.put Md.put; split <;> exact ⟨h.d0, h.d1⟩
theorem Dry.wd (h : Dry s x) (hs : Sees s x m) {i k : Nat} (hi : i < 2) (y : List UInt8) : Dry (s.dev ((Two p1 g1 p2 g2).wr s.d i (k : Int) y).2) (x.wd i k y) := by
  rcases two hi with rfl | rfl
  · cases ho : x.o0 with
    | true =>
      have hw := hs.d0.write_no (n := (k : Int)) (x := y) (by rw [ho]; simp)
      have e : ((Two p1 g1 p2 g2).wr s.d 0 (k : Int) y).2 = s.d := by
        show ((s.d.1.write 0 k y).2, s.d.2) = _
        rw [hw]; rfl
      rw [e, Md.wd, show x.o 0 = true from ho, if_pos rfl]
      exact h
    | false =>
      rw [Md.wd, show x.o 0 = false from ho, if_neg (by simp)]
      exact ⟨fun h1 => (by have h2 : x.o0 = true := h1; rw [ho] at h2; cases h2), h.d1⟩
  · cases ho : x.o1 with
    | true =>
      have hw := hs.d1.write_no (n := (k : Int)) (x := y) (by rw [ho]; simp)
      have e : ((Two p1 g1 p2 g2).wr s.d 1 (k : Int) y).2 = s.d := by
        show (s.d.1, (s.d.2.write 0 k y).2) = _
        rw [hw]; rfl
      rw [e, Md.wd, show x.o 1 = true from ho, if_pos rfl]
      exact h
    | false =>
      rw [Md.wd, show x.o 1 = false from ho, if_neg (by simp)]
      exact ⟨h.d0, fun h1 => (by have h2 : x.o1 = true := h1; rw [ho] at h2; cases h2)⟩
theorem Sees.fl (h : Sees s x m) (hd : Dry s x) : s.flushed = (!x.o0, !x.o1) ∧ Sees ((s.fl0 0).fl0 1) x 0 := by
  have e0 : ((Two p1 g1 p2 g2).fl s.d 0) = ((s.d.1.flush 0).1, ((s.d.1.flush 0).2, s.d.2)) := rfl
  have e1 : ((Two p1 g1 p2 g2).fl (s.fl0 0).d 1) = ((s.d.2.flush 0).1, ((s.d.1.flush 0).2, (s.d.2.flush 0).2)) := rfl
  have h0 : ((s.d.1.flush 0).1 == 0) = !x.o0 ∧ See (s.d.1.flush 0).2 x.l0 x.o0 0 := by
    cases ho : x.o0 with
    | true => rw [h.d0.flush_no ho]; exact ⟨rfl, ho ▸ hd.d0 ho⟩
    | false => obtain ⟨h1, h2⟩ := h.d0.flush_yes ho; rw [h1]; exact ⟨rfl, ho ▸ h2⟩
  have h1 : ((s.d.2.flush 0).1 == 0) = !x.o1 ∧ See (s.d.2.flush 0).2 x.l1 x.o1 0 := by
    cases ho : x.o1 with
    | true => rw [h.d1.flush_no ho]; exact ⟨rfl, ho ▸ hd.d1 ho⟩
    | false => obtain ⟨h1, h2⟩ := h.d1.flush_yes ho; rw [h1]; exact ⟨rfl, ho ▸ h2⟩
  refine ⟨?_, h0.2, h1.2, h.a, h.b, h.n0, h.n1, h.nb⟩
  rw [Mr.flushed, e1]
  show (((s.d.1.flush 0).1 == 0), ((s.d.2.flush 0).1 == 0)) = _
  rw [h0.1, h1.1]
theorem Sees.flush (h : Sees s x m) (hd : Dry s x) : s.flush.1 = (if x.o0 && x.o1 then 13 else 0) ∧ Sees s.flush.2 x 0 := by
  obtain ⟨h1, h2⟩ := h.fl hd
  rw [Mr.flush, h1, h.there (by omega), h.there (by omega), show x.o 0 = x.o0 from rfl, show x.o 1 = x.o1 from rfl]
  refine ⟨?_, h2⟩
  cases x.o0 <;> cases x.o1 <;> rfl
/-! ### Reading -/
def Md.read (f : Int → List UInt8 → Bool) (x : Md) (n : Int) : List UInt8 × Int :=
  if x.has n then (if x.right f 0 n.toNat then (x.l0.getD n.toNat zeroS, 0) else if x.right f 1 n.toNat then (x.l1.getD n.toNat zeroS, 0) else (zeroS, if x.o0 && x.o1 then 13 else 9)) else (zeroS, 2)
theorem right_in {f : Int → List UInt8 → Bool} {i k : Nat} (hr : x.right f i k = true) : x.o i = false := by
  rw [Md.right] at hr
  cases ho : x.o i
  · rfl
  · rw [ho] at hr; simp at hr
theorem Sees.read (h : Sees s x m) (n : Int) : readM (Two p1 g1 p2 g2) G s n = x.read G.f n := by
  rw [readM, Md.read, h.has]
  cases hh : x.has n with
  | false => rfl
  | true =>
    obtain ⟨k, rfl, hk⟩ := has_place hh
    rw [if_pos rfl, if_pos rfl, Int.toNat_natCast, h.right (by omega) hk, h.right (by omega) hk, h.rd_at (by omega) hk, h.rd_at (by omega) hk, h.there (by omega), h.there (by omega)]
    cases h0 : x.right G.f 0 k with
    | true => simp only [if_true, right_in h0]; rfl
    | false =>
      simp only [Bool.false_eq_true, if_false]
      cases h1 : x.right G.f 1 k with
      | true => simp only [if_true, right_in h1]; rfl
      | false =>
        simp only [Bool.false_eq_true, if_false]
        rw [show x.o 0 = x.o0 from rfl, show x.o 1 = x.o1 from rfl]
        cases x.o0 <;> cases x.o1 <;> rfl
/-- What Both tells. -/
def Md.bothTo (f : Int → List UInt8 → Bool) (x : Md) (k : Nat) : Nat → List (List UInt8)
  | 0 => []
  | p + 1 => x.bothTo f k p ++ if !(x.o p) && f k ((x.l p).getD k zeroS) then [(x.l p).getD k zeroS] else []
def Md.both (f : Int → List UInt8 → Bool) (x : Md) (n : Int) : List (List UInt8) := if x.has n then x.bothTo f n.toNat 2 else []
theorem Sees.bothTo (h : Sees s x m) {k : Nat} (hk : k < x.a.length) : ∀ p, p ≤ 2 → Mi.bothTo (Two p1 g1 p2 g2) G s.d (k : Int) p = x.bothTo G.f k p
  | 0, _ => rfl
  | p + 1, hp => by
    rw [Mi.bothTo, Md.bothTo, h.bothTo hk p (by omega), h.rdOk (by omega) hk, h.rd_at (by omega) hk]
    cases ho : x.o p
    · rfl
    · rfl
theorem Sees.both (h : Sees s x m) (n : Int) : bothL G s n = x.both G.f n := by
  rw [bothL, Md.both, h.has]
  cases hh : x.has n with
  | false => rfl
  | true =>
    obtain ⟨k, rfl, hk⟩ := has_place hh
    rw [if_pos rfl, if_pos rfl, Int.toNat_natCast, h.bothTo hk 2 (by omega)]
/-! ### Healing -/
def Md.mend (x : Md) (i k : Nat) (y : List UInt8) : Md := (x.setL i k y).put i k false
theorem Sees.mend (h : Sees s x m) {i k : Nat} (hi : i < 2) (hk : k < x.a.length) (ho : x.o i = false) (y : List UInt8) : (s.mend i k y).1 = 0 ∧ Sees (s.mend i k y).2 (x.mend i k y) (m + 1) := by
  obtain ⟨e, hw⟩ := h.wd hi hk y
  rw [ho] at e
  rw [Md.wd, ho, if_neg (by simp)] at hw
  rw [Mr.mend]
  rw [e]
  exact ⟨rfl, hw.put i k false⟩
def Md.heal (f : Int → List UInt8 → Bool) (x : Md) (n : Int) : (Int × Int) × Md :=
  if x.has n then
    if x.o0 || x.o1 then ((0, 13), x)
    else if x.right f 0 n.toNat then
      (if x.right f 1 n.toNat && decide (x.l0.getD n.toNat zeroS = x.l1.getD n.toNat zeroS) then ((0, 0), x) else ((1, 0), x.mend 1 n.toNat (x.l0.getD n.toNat zeroS)))
    else if x.right f 1 n.toNat then ((1, 0), x.mend 0 n.toNat (x.l1.getD n.toNat zeroS)) else ((2, 0), x)
  else ((0, 2), x)
theorem Sees.healTo (h : Sees s x m) {i k : Nat} (hi : i < 2) (hk : k < x.a.length) (ho : x.o i = false) (y : List UInt8) : (s.healTo i k y).1 = (1, 0) ∧ Sees (s.healTo i k y).2 (x.mend i k y) (m + 1) := by
  obtain ⟨e, hw⟩ := h.mend hi hk ho y
  rw [Mr.healTo, e]
  exact ⟨rfl, hw⟩
theorem Sees.heal (h : Sees s x m) (n : Int) : (s.heal G n).1 = (x.heal G.f n).1 ∧ Sees (s.heal G n).2 (x.heal G.f n).2 (m + 1) := by
  rw [Mr.heal, Md.heal, h.has]
  cases hh : x.has n with
  | false => exact ⟨rfl, h.more (by omega)⟩
  | true =>
    obtain ⟨k, rfl, hk⟩ := has_place hh
    rw [if_pos rfl, if_pos rfl, Int.toNat_natCast, h.there (by omega), h.there (by omega), h.right (by omega) hk, h.right (by omega) hk, show x.o 0 = x.o0 from rfl, show x.o 1 = x.o1 from rfl]
    cases ho0 : x.o0 with
    | true => exact ⟨rfl, h.more (by omega)⟩
    | false =>
      cases ho1 : x.o1 with
      | true => exact ⟨rfl, h.more (by omega)⟩
      | false =>
        rw [if_pos (show ((!false) && !false) = true from rfl), if_neg (show ¬ (false || false) = true by simp)]
        cases h0 : x.right G.f 0 k with
        | true =>
          have v0 : Mi.rightV (Two p1 g1 p2 g2) G s 0 k = x.l0.getD k zeroS := h.rightV (i := 0) (by omega) hk h0
          simp only [if_true, v0]
          cases h1 : x.right G.f 1 k with
          | true =>
            have v1 : Mi.rightV (Two p1 g1 p2 g2) G s 1 k = x.l1.getD k zeroS := h.rightV (i := 1) (by omega) hk h1
            simp only [if_true, v1, Bool.true_and]
            by_cases he : x.l0.getD k zeroS = x.l1.getD k zeroS
            · rw [if_pos he, if_pos (decide_eq_true he)]; exact ⟨rfl, h.more (by omega)⟩
            · rw [if_neg he, if_neg (by rw [decide_eq_false he]; simp)]; exact h.healTo (i := 1) (by omega) hk ho1 _
          | false => simp only [Bool.false_eq_true, if_false, Bool.false_and]; exact h.healTo (i := 1) (by omega) hk ho1 _
        | false =>
          simp only [Bool.false_eq_true, if_false]
          cases h1 : x.right G.f 1 k with
          | true =>
            have v1 : Mi.rightV (Two p1 g1 p2 g2) G s 1 k = x.l1.getD k zeroS := h.rightV (i := 1) (by omega) hk h1
            simp only [if_true, v1]; exact h.healTo (i := 0) (by omega) hk ho0 _
          | false => simp only [Bool.false_eq_true, if_false]; exact ⟨trivial, h.more (by omega)⟩
/-! ### New -/
def Md.new (n : Nat) : Md := ⟨List.replicate n zeroS, List.replicate n zeroS, false, false, List.replicate n false, List.replicate n false⟩
theorem sees_new {S T : Sy} {L0 L1 : List (List UInt8)} {o0 o1 : Bool} {n : Nat} (h0 : See S L0 o0 m) (h1 : See T L1 o1 m) (e0 : L0.length = n) (e1 : L1.length = n) :
    Sees (newM (Two p1 g1 p2 g2) (S, T)) ⟨L0, L1, o0, o1, List.replicate n o0, List.replicate n o1⟩ m := by
  have hs : Sees (⟨(S, T), List.replicate n o0, List.replicate n o1⟩ : Mr (Two p1 g1 p2 g2)) ⟨L0, L1, o0, o1, List.replicate n o0, List.replicate n o1⟩ m :=
    ⟨h0, h1, rfl, rfl, by rw [List.length_replicate]; exact e0, by rw [List.length_replicate]; exact e1, by rw [List.length_replicate, List.length_replicate]⟩
  have hp : (Two p1 g1 p2 g2).places (S, T) = n := by
    show min (S.at 0).st.length (T.at 0).st.length = n
    rw [h0.len, h1.len, e0, e1, Nat.min_self]
  have t0 : (Two p1 g1 p2 g2).there (S, T) 0 = !o0 := hs.there (i := 0) (by omega)
  have t1 : (Two p1 g1 p2 g2).there (S, T) 1 = !o1 := hs.there (i := 1) (by omega)
  have e : newM (Two p1 g1 p2 g2) (S, T) = ⟨(S, T), List.replicate n o0, List.replicate n o1⟩ := by
    show (⟨(S, T), List.replicate ((Two p1 g1 p2 g2).places (S, T)) (!((Two p1 g1 p2 g2).there (S, T) 0)), List.replicate ((Two p1 g1 p2 g2).places (S, T)) (!((Two p1 g1 p2 g2).there (S, T) 1))⟩ : Mr (Two p1 g1 p2 g2)) = _
    rw [hp, t0, t1, Bool.not_not, Bool.not_not]
  rw [e]
  exact hs
end
end Go.Proofs.Ythadomboiockhaa.Mi
/-
  .. Sync, Out, Rot; what waits of what is out. No program.
-/
namespace Go.Proofs.Ythadomboiockhaa.Mi
open Kd
section
variable {p1 g1 p2 g2 : Nat} {s : Mr (Two p1 g1 p2 g2)} {x : Md} {m : Nat} {G : Gd}
theorem dry_in (h0 : x.o0 = false) (h1 : x.o1 = false) : Dry s x := ⟨fun h => (by rw [h0] at h; cases h), fun h => (by rw [h1] at h; cases h)⟩
theorem Dry.write (hd : Dry s x) (h : Sees s x m) (n : Int) (y : List UInt8) : Dry (s.write n y).2 (x.write n y).2 := by
  rw [Mr.write, Md.write, h.has]
  cases hh : x.has n with
  | false => exact hd
  | true =>
    obtain ⟨k, rfl, hk⟩ := has_place hh
    rw [if_pos rfl, if_pos rfl, Int.toNat_natCast]
    obtain ⟨e0, h0⟩ := h.wd (i := 0) (by omega) hk y
    obtain ⟨e1, _⟩ := h0.wd (i := 1) (by omega) (by rw [wd_a]; exact hk) y
    have e1' : ((Two p1 g1 p2 g2).wr (s.w0 (k : Int) y 0).d 1 (k : Int) y).1 = _ := e1
    rw [wd_o] at e1'
    rw [e0, e1', eq13, eq13]
    have h2 : Dry ((s.w0 (k : Int) y 0).w0 (k : Int) y 1) ((x.wd 0 k y).wd 1 k y) := (hd.wd h (by omega) y).wd h0 (by omega) y
    rw [Mr.reach, show x.o 0 = x.o0 from rfl, show x.o 1 = x.o1 from rfl]
    cases ho0 : x.o0 <;> cases ho1 : x.o1
    · exact (h2.put 0 k false).put 1 k false
    · exact (h2.put 0 k false).put 1 k true
    · exact (h2.put 0 k true).put 1 k false
    · have hx : (x.wd 0 k y).wd 1 k y = x := by
        have h3 : x.wd 0 k y = x := by rw [Md.wd, show x.o 0 = true from ho0, if_pos rfl]
        rw [h3, Md.wd, show x.o 1 = true from ho1, if_pos rfl]
      rw [hx] at h2
      exact h2
theorem Dry.c1 (hd : Dry s x) (h : Sees s x m) {i k : Nat} (hi : i < 2) (hk : k < x.a.length) (y : List UInt8) : Dry (s.c1 (k : Int) y i).2 (x.wd i k y) := by
  have hw := hd.wd h hi y (k := k)
  rw [Mr.c1, h.rd_at hi hk]
  cases ho : x.o i with
  | true =>
    rw [if_neg (by simp), Md.wd, ho, if_pos rfl]
    exact hd
  | false =>
    rw [if_pos (by simp)]
    by_cases hy : (x.l i).getD k zeroS = y
    · rw [if_pos (by simpa using hy), ← hy, wd_same ho]
      exact hd
    · rw [if_neg (by simpa using hy)]
      exact hw
theorem Dry.choose (hd : Dry s x) (h : Sees s x m) (n : Int) (y : List UInt8) : Dry (s.choose n y).2 (x.write n y).2 := by
  rw [Mr.choose, Md.write, h.has]
  cases hh : x.has n with
  | false => exact hd
  | true =>
    obtain ⟨k, rfl, hk⟩ := has_place hh
    rw [if_pos rfl, if_pos rfl, Int.toNat_natCast]
    obtain ⟨e0, h0⟩ := h.c1 (i := 0) (by omega) hk y
    obtain ⟨e1, _⟩ := h0.c1 (i := 1) (by omega) (by rw [wd_a]; exact hk) y
    rw [wd_o] at e1
    rw [e0, e1]
    have h2 : Dry ((s.c1 (k : Int) y 0).2.c1 (k : Int) y 1).2 ((x.wd 0 k y).wd 1 k y) := (hd.c1 h (by omega) hk y).c1 h0 (by omega) (by rw [wd_a]; exact hk) y
    rw [Mr.reach, show x.o 0 = x.o0 from rfl, show x.o 1 = x.o1 from rfl]
    cases ho0 : x.o0 <;> cases ho1 : x.o1
    · exact (h2.put 0 k false).put 1 k false
    · exact (h2.put 0 k false).put 1 k true
    · exact (h2.put 0 k true).put 1 k false
    · have hx : (x.wd 0 k y).wd 1 k y = x := by
        have h3 : x.wd 0 k y = x := by rw [Md.wd, show x.o 0 = true from ho0, if_pos rfl]
        rw [h3, Md.wd, show x.o 1 = true from ho1, if_pos rfl]
      rw [hx] at h2
      exact h2
theorem setL_o (x : Md) (i k : Nat) (y : List UInt8) : (x.setL i k y).o0 = x.o0 ∧ (x.setL i k y).o1 = x.o1 ∧ (x.setL i k y).a = x.a := by unfold Md.setL; split <;> exact ⟨rfl, rfl, rfl⟩
theorem put_o (x : Md) (i k : Nat) (v : Bool) : (x.put i k v).o0 = x.o0 ∧ (x.put i k v).o1 = x.o1 ∧ (x.put i k v).a.length = x.a.length := by
  unfold Md.put; split
  · exact ⟨rfl, rfl, by simp⟩
  · exact ⟨rfl, rfl, rfl⟩
theorem mend_o (x : Md) (i k : Nat) (y : List UInt8) : (x.mend i k y).o0 = x.o0 ∧ (x.mend i k y).o1 = x.o1 ∧ (x.mend i k y).a.length = x.a.length := by
  obtain ⟨h1, h2, h3⟩ := put_o (x.setL i k y) i k false
  obtain ⟨h4, h5, h6⟩ := setL_o x i k y
  exact ⟨h1.trans h4, h2.trans h5, h3.trans (by rw [h6])⟩
theorem Dry.heal (hd : Dry s x) (h : Sees s x m) (n : Int) : Dry (s.heal G n).2 (x.heal G.f n).2 := by
  by_cases hc : x.has n = true ∧ x.o0 = false ∧ x.o1 = false
  · obtain ⟨hh, h0, h1⟩ := hc
    have e : (x.heal G.f n).2.o0 = false ∧ (x.heal G.f n).2.o1 = false := by
      rw [Md.heal, hh, if_pos rfl, if_neg (by rw [h0, h1]; simp)]
      split
      · split
        · exact ⟨h0, h1⟩
        · obtain ⟨a, b, _⟩ := mend_o x 1 n.toNat (x.l0.getD n.toNat zeroS); exact ⟨a.trans h0, b.trans h1⟩
      · split
        · obtain ⟨a, b, _⟩ := mend_o x 0 n.toNat (x.l1.getD n.toNat zeroS); exact ⟨a.trans h0, b.trans h1⟩
        · exact ⟨h0, h1⟩
    exact dry_in e.1 e.2
  · have e : (s.heal G n).2 = s ∧ (x.heal G.f n).2 = x := by
      rw [Mr.heal, Md.heal, h.has]
      cases hh : x.has n with
      | false => exact ⟨rfl, rfl⟩
      | true =>
        rw [if_pos rfl, if_pos rfl, h.there (by omega), h.there (by omega), show x.o 0 = x.o0 from rfl, show x.o 1 = x.o1 from rfl]
        cases h0 : x.o0 with
        | true => exact ⟨rfl, rfl⟩
        | false =>
          cases h1 : x.o1 with
          | true => exact ⟨rfl, rfl⟩
          | false => exact absurd ⟨hh, h0, h1⟩ hc
    rw [e.1, e.2]
    exact hd
/-! ### Sync -/
def Md.catch1 (f : Int → List UInt8 → Bool) (x : Md) (i k : Nat) : Md := if (x.st i).getD k false && x.right f (1 - i) k then x.mend i k ((x.l (1 - i)).getD k zeroS) else x
def Md.catchTo (f : Int → List UInt8 → Bool) (x : Md) (i : Nat) : Nat → Md
  | 0 => x
  | k + 1 => (x.catchTo f i k).catch1 f i k
theorem catch1_o (f : Int → List UInt8 → Bool) (x : Md) (i k : Nat) : (x.catch1 f i k).o0 = x.o0 ∧ (x.catch1 f i k).o1 = x.o1 ∧ (x.catch1 f i k).a.length = x.a.length := by
  unfold Md.catch1; split
  · exact mend_o _ _ _ _
  · exact ⟨rfl, rfl, rfl⟩
theorem catchTo_o (f : Int → List UInt8 → Bool) (x : Md) (i : Nat) : ∀ k, (x.catchTo f i k).o0 = x.o0 ∧ (x.catchTo f i k).o1 = x.o1 ∧ (x.catchTo f i k).a.length = x.a.length
  | 0 => ⟨rfl, rfl, rfl⟩
  | k + 1 => by
    obtain ⟨a, b, c⟩ := catchTo_o f x i k
    obtain ⟨d, e, g⟩ := catch1_o f (x.catchTo f i k) i k
    exact ⟨d.trans a, e.trans b, g.trans c⟩
theorem Sees.catch1 (h : Sees s x m) {i k : Nat} (hi : i < 2) (hk : k < x.a.length) (ho : x.o i = false) : Sees (s.catch1 G i k) (x.catch1 G.f i k) (m + 1) := by
  rw [Mr.catch1, Md.catch1, h.st, h.right (by omega) hk]
  split
  · rename_i hc
    have hr : x.right G.f (1 - i) k = true := by
      cases hr : x.right G.f (1 - i) k
      · rw [hr, Bool.and_false] at hc; cases hc
      · rfl
    rw [h.rightV (by omega) hk hr]
    exact (h.mend hi hk ho _).2
  · exact h.more (Nat.le_succ _)
theorem Sees.catchTo (h : Sees s x m) {i : Nat} (hi : i < 2) (ho0 : x.o0 = false) (ho1 : x.o1 = false) : ∀ k, k ≤ x.a.length → Sees (s.catchTo G i k) (x.catchTo G.f i k) (m + k)
  | 0, _ => h
  | k + 1, hk => by
    obtain ⟨a, b, c⟩ := catchTo_o G.f x i k
    refine (h.catchTo hi ho0 ho1 k (by omega)).catch1 hi (by rw [c]; omega) ?_
    rcases two hi with rfl | rfl
    · exact a.trans ho0
    · exact b.trans ho1
def Md.caught (f : Int → List UInt8 → Bool) (x : Md) : Md := (x.catchTo f 0 x.a.length).catchTo f 1 x.a.length
def Md.sync (f : Int → List UInt8 → Bool) (x : Md) : Int × Md :=
  if x.o0 || x.o1 then (13, x) else (if cnt (x.caught f).a = 0 ∧ cnt (x.caught f).b = 0 then 0 else 9, x.caught f)
theorem Sees.sync (h : Sees s x 0) : (s.sync G x.a.length).1 = (x.sync G.f).1 ∧ Sees (s.sync G x.a.length).2 (x.sync G.f).2 0 := by
  rw [Mr.sync, Md.sync, h.there (by omega), h.there (by omega), show x.o 0 = x.o0 from rfl, show x.o 1 = x.o1 from rfl]
  cases ho0 : x.o0 with
  | true => exact ⟨rfl, h⟩
  | false =>
    cases ho1 : x.o1 with
    | true => exact ⟨rfl, h⟩
    | false =>
      rw [if_pos (show ((!false) && !false) = true from rfl), if_neg (show ¬ (false || false) = true by simp)]
      obtain ⟨a, b, c⟩ := catchTo_o G.f x 0 x.a.length
      have h1 := h.catchTo (G := G) (i := 0) (by omega) ho0 ho1 x.a.length (Nat.le_refl _)
      have h2 : Sees (s.caught G x.a.length) (x.caught G.f) (0 + x.a.length + x.a.length) := h1.catchTo (i := 1) (by omega) (a.trans ho0) (b.trans ho1) x.a.length (by rw [c]; exact Nat.le_refl _)
      obtain ⟨d, e, g⟩ := catchTo_o G.f (x.catchTo G.f 0 x.a.length) 1 x.a.length
      have o0 : (x.caught G.f).o0 = false := (d.trans a).trans ho0
      have o1 : (x.caught G.f).o1 = false := (e.trans b).trans ho1
      obtain ⟨h3, h4⟩ := h2.fl (dry_in o0 o1)
      rw [o0, o1] at h3
      rw [if_pos (show (s.caught G x.a.length).flushed = (true, true) from h3)]
      refine ⟨?_, h4⟩
      rw [show (((s.caught G x.a.length).fl0 0).fl0 1).a = (x.caught G.f).a from h4.a, show (((s.caught G x.a.length).fl0 0).fl0 1).b = (x.caught G.f).b from h4.b]
theorem Dry.sync (h : Sees s x 0) : Dry (s.sync G x.a.length).2 (x.sync G.f).2 := (h.sync).2.dry
/-! ### Out, Rot -/
def Md.out (x : Md) (i : Nat) (on : Bool) : Md := if i = 0 then { x with o0 := on } else { x with o1 := on }
theorem Sees.out0 (h : Sees s x 0) (on : Bool) : Sees (⟨(s.d.1.put 0 ((s.d.1.at 0).out on), s.d.2), s.a, s.b⟩ : Mr (Two p1 g1 p2 g2)) (x.out 0 on) 0 := ⟨h.d0.out on, h.d1, h.a, h.b, h.n0, h.n1, h.nb⟩
theorem Sees.out1 (h : Sees s x 0) (on : Bool) : Sees (⟨(s.d.1, s.d.2.put 0 ((s.d.2.at 0).out on)), s.a, s.b⟩ : Mr (Two p1 g1 p2 g2)) (x.out 1 on) 0 := ⟨h.d0, h.d1.out on, h.a, h.b, h.n0, h.n1, h.nb⟩
theorem See.rot {S : Sy} {L : List (List UInt8)} {g : Bool} (h : See S L g 0) (i a : Int) (b : UInt8) : See (S.rot 0 i a b) (if hasByte L.length i a then rotL L i.toNat a.toNat b else L) g 0 := by
  have hl : (S.at 0).st.length = L.length := h.len
  rw [Sy.rot, hl]
  split
  · have hd0 : 0 < S.ds.length := by rw [h.ds]; omega
    have ha : (S.put 0 ((S.at 0).rot i.toNat a.toNat b)).at 0 = (S.at 0).rot i.toNat a.toNat b := by rw [at_put _ hd0, if_pos rfl]
    refine ⟨by rw [len_put]; exact h.ds, h.p, ?_, fun j hj => ?_, by rw [ha]; exact h.gone, by rw [ha]; exact h.lies, by rw [ha]; exact h.few⟩
    · rw [ha, ← h.stable]; rfl
    · rw [ha, Dv.now]
      show nowL (rotL (S.at 0).st i.toNat a.toNat b) (S.at 0).wt j = _
      rw [h.dry, Kd.flush_nil, h.stable]
  · exact h
def Md.rot (x : Md) (i : Nat) (n a : Int) (b : UInt8) : Md := if hasByte x.a.length n a then (if i = 0 then { x with l0 := rotL x.l0 n.toNat a.toNat b } else { x with l1 := rotL x.l1 n.toNat a.toNat b }) else x
theorem rotL_length (L : List (List UInt8)) (n a : Nat) (b : UInt8) : (rotL L n a b).length = L.length := by rw [rotL, List.length_set]
theorem Sees.rot0 (h : Sees s x 0) (n a : Int) (b : UInt8) : Sees (⟨(s.d.1.rot 0 n a b, s.d.2), s.a, s.b⟩ : Mr (Two p1 g1 p2 g2)) (x.rot 0 n a b) 0 := by
  have h1 := h.d0.rot n a b
  rw [h.n0] at h1
  rw [Md.rot]
  split
  · rename_i hc
    rw [if_pos hc] at h1
    exact ⟨h1, h.d1, h.a, h.b, by show (rotL _ _ _ _).length = _; rw [rotL_length]; exact h.n0, h.n1, h.nb⟩
  · rename_i hc
    rw [if_neg hc] at h1
    exact ⟨h1, h.d1, h.a, h.b, h.n0, h.n1, h.nb⟩
theorem Sees.rot1 (h : Sees s x 0) (n a : Int) (b : UInt8) : Sees (⟨(s.d.1, s.d.2.rot 0 n a b), s.a, s.b⟩ : Mr (Two p1 g1 p2 g2)) (x.rot 1 n a b) 0 := by
  have h1 := h.d1.rot n a b
  rw [h.n1] at h1
  rw [Md.rot]
  split
  · rename_i hc
    rw [if_pos hc] at h1
    exact ⟨h.d0, h1, h.a, h.b, h.n0, by show (rotL _ _ _ _).length = _; rw [rotL_length]; exact h.n1, h.nb⟩
  · rename_i hc
    rw [if_neg hc] at h1
    exact ⟨h.d0, h1, h.a, h.b, h.n0, h.n1, h.nb⟩
end
end Go.Proofs.Ythadomboiockhaa.Mi
/-
  A mirror of two devices of one power that never fails, as the document tells of it. No program.
-/
namespace Go.Proofs.Ythadomboiockhaa.Mu
open Kd Mi
section
variable {pw g1 g2 : Nat} {s : Mr (one pw g1 g2)} {x : Md} {m : Nat} {G : Gd}
structure Sees (s : Mr (one pw g1 g2)) (x : Md) (m : Nat) : Prop where
  d0 : See s.d 0 x.l0 x.o0 m
  d1 : See s.d 1 x.l1 x.o1 m
  a : s.a = x.a
  b : s.b = x.b
  n0 : x.l0.length = x.a.length
  n1 : x.l1.length = x.a.length
  nb : x.b.length = x.a.length
theorem Sees.more (h : Sees s x m) {m' : Nat} (hm : m ≤ m') : Sees s x m' := ⟨h.d0.more hm, h.d1.more hm, h.a, h.b, h.n0, h.n1, h.nb⟩
theorem Sees.ok (h : Sees s x m) : s.ok x.a.length := ⟨by rw [h.a], by rw [h.b]; exact h.nb⟩
theorem Sees.st (h : Sees s x m) (i : Nat) : s.st i = x.st i := by
  unfold Mr.st Md.st; split
  · exact h.a
  · exact h.b
theorem Sees.most (h : Sees s x m) : (one pw g1 g2).most s.d ≤ m := by
  show mostD s.d ≤ m
  unfold mostD
  rw [if_pos h.d0.ds]
  exact Nat.max_le.2 ⟨h.d0.few, h.d1.few⟩
theorem Sees.has (h : Sees s x m) (n : Int) : Mi.has s n = x.has n := by rw [Mi.has, Md.has, h.a]
theorem Sees.rd (h : Sees s x m) {i : Nat} (hi : i < 2) (n : Int) :
    (one pw g1 g2).rd s.d i n = (if x.o i then 13 else if n < 0 ∨ (x.a.length : Int) ≤ n then 2 else 0, if x.o i = false ∧ 0 ≤ n ∧ n < (x.a.length : Int) then (x.l i).getD n.toNat zeroS else zeroS) := by
  rcases two hi with rfl | rfl
  · show (refuseN s.d.p (s.d.at 0) n, readS s.d.p (s.d.at 0) n) = _
    rw [h.d0.refuse, h.d0.read, h.n0]; rfl
  · show (refuseN s.d.p (s.d.at 1) n, readS s.d.p (s.d.at 1) n) = _
    rw [h.d1.refuse, h.d1.read, h.n1]; rfl
theorem Sees.there (h : Sees s x m) {i : Nat} (hi : i < 2) : (one pw g1 g2).there s.d i = !(x.o i) := by
  have hp : ((one pw g1 g2).ptr i).isSome = true := by rcases two hi with rfl | rfl <;> rfl
  rw [Duo.there, hp, h.rd hi]
  cases x.o i
  · show (true && ((if false = true then (13 : Int) else if (0 : Int) < 0 ∨ (x.a.length : Int) ≤ 0 then 2 else 0) != 13)) = true
    rw [if_neg (by simp)]
    split <;> rfl
  · rfl
/-- A place's reading. -/
theorem Sees.rd_at (h : Sees s x m) {i k : Nat} (hi : i < 2) (hk : k < x.a.length) : (one pw g1 g2).rd s.d i (k : Int) = (if x.o i then 13 else 0, if x.o i then zeroS else (x.l i).getD k zeroS) := by
  rw [h.rd hi]
  cases x.o i
  · simp only [Bool.false_eq_true, if_false, true_and]
    rw [if_neg (by omega), if_pos ⟨by omega, by omega⟩, Int.toNat_natCast]
  · simp
theorem Sees.rdOk (h : Sees s x m) {i k : Nat} (hi : i < 2) (hk : k < x.a.length) : Mi.rdOk (one pw g1 g2) G s.d i (k : Int) = (!(x.o i) && G.f k ((x.l i).getD k zeroS)) := by
  rw [Mi.rdOk, h.rd_at hi hk]
  cases x.o i <;> rfl
theorem Sees.right (h : Sees s x m) {i k : Nat} (hi : i < 2) (hk : k < x.a.length) : Mi.right (one pw g1 g2) G s i k = x.right G.f i k := by
  rw [Mi.right, Md.right, h.st, h.rdOk hi hk]
theorem Sees.rightV (h : Sees s x m) {i k : Nat} (hi : i < 2) (hk : k < x.a.length) (hr : x.right G.f i k = true) : Mi.rightV (one pw g1 g2) G s i k = (x.l i).getD k zeroS := by
  have ho : x.o i = false := by
    rw [Md.right] at hr
    cases ho : x.o i
    · rfl
    · rw [ho] at hr; simp at hr
  rw [Mi.rightV, h.right hi hk, hr, if_pos rfl, h.rd_at hi hk, ho]; rfl
theorem Sees.put (h : Sees s x m) (i k : Nat) (v : Bool) : Sees (s.put i k v) (x.put i k v) m := by
  unfold Mr.put Md.put
  split
  · exact ⟨h.d0, h.d1, by show s.a.set k v = x.a.set k v; rw [h.a], h.b, by show x.l0.length = (x.a.set k v).length; rw [List.length_set]; exact h.n0, by show x.l1.length = (x.a.set k v).length; rw [List.length_set]; exact h.n1, by show x.b.length = (x.a.set k v).length; rw [List.length_set]; exact h.nb⟩
  · exact ⟨h.d0, h.d1, h.a, by show s.b.set k v = x.b.set k v; rw [h.b], h.n0, h.n1, by show (x.b.set k v).length = x.a.length; rw [List.length_set]; exact h.nb⟩
theorem Sees.wd (h : Sees s x m) {i k : Nat} (hi : i < 2) (hk : k < x.a.length) (y : List UInt8) :
    ((one pw g1 g2).wr s.d i (k : Int) y).1 = (if x.o i then 13 else 0) ∧ Sees (s.dev ((one pw g1 g2).wr s.d i (k : Int) y).2) (x.wd i k y) (m + 1) := by
  rcases two hi with rfl | rfl
  · cases ho : x.o0 with
    | true =>
      have hw : (one pw g1 g2).wr s.d 0 (k : Int) y = _ := h.d0.write_no (n := (k : Int)) (x := y) (by rw [ho]; simp)
      rw [hw, ho]
      refine ⟨by rw [show x.o 0 = true from ho]; rfl, ?_⟩
      rw [Md.wd, show x.o 0 = true from ho, if_pos rfl]
      exact h.more (Nat.le_succ _)
    | false =>
      obtain ⟨h1, h2, h3⟩ := h.d0.write_yes (x := y) ho (k := k) (by rw [h.n0]; exact hk)
      refine ⟨by show (s.d.write 0 k y).1 = _; rw [h1, show x.o 0 = false from ho]; rfl, ?_⟩
      rw [Md.wd, show x.o 0 = false from ho, if_neg (by simp)]
      exact ⟨h2, (h3 (by omega) h.d1).more (Nat.le_succ _), h.a, h.b, by show (x.l0.set k y).length = _; rw [List.length_set]; exact h.n0, h.n1, h.nb⟩
  · cases ho : x.o1 with
    | true =>
      have hw : (one pw g1 g2).wr s.d 1 (k : Int) y = _ := h.d1.write_no (n := (k : Int)) (x := y) (by rw [ho]; simp)
      rw [hw, ho]
      refine ⟨by rw [show x.o 1 = true from ho]; rfl, ?_⟩
      rw [Md.wd, show x.o 1 = true from ho, if_pos rfl]
      exact h.more (Nat.le_succ _)
    | false =>
      obtain ⟨h1, h2, h3⟩ := h.d1.write_yes (x := y) ho (k := k) (by rw [h.n1]; exact hk)
      refine ⟨by show (s.d.write 1 k y).1 = _; rw [h1, show x.o 1 = false from ho]; rfl, ?_⟩
      rw [Md.wd, show x.o 1 = false from ho, if_neg (by simp)]
      exact ⟨(h3 (by omega) h.d0).more (Nat.le_succ _), h2, h.a, h.b, h.n0, by show (x.l1.set k y).length = _; rw [List.length_set]; exact h.n1, h.nb⟩
theorem Sees.write (h : Sees s x m) (n : Int) (y : List UInt8) : (s.write n y).1 = (x.write n y).1 ∧ Sees (s.write n y).2 (x.write n y).2 (m + 2) := by
  rw [Mr.write, Md.write, h.has]
  cases hh : x.has n with
  | false => exact ⟨rfl, h.more (by omega)⟩
  | true =>
    obtain ⟨k, rfl, hk⟩ := has_place hh
    rw [if_pos rfl, if_pos rfl, Int.toNat_natCast]
    obtain ⟨e0, h0⟩ := h.wd (i := 0) (by omega) hk y
    obtain ⟨e1, h1⟩ := h0.wd (i := 1) (by omega) (by rw [wd_a]; exact hk) y
    have e1' : ((one pw g1 g2).wr (s.w0 (k : Int) y 0).d 1 (k : Int) y).1 = _ := e1
    rw [wd_o] at e1'
    rw [e0, e1', eq13, eq13]
    have h2 : Sees ((s.w0 (k : Int) y 0).w0 (k : Int) y 1) ((x.wd 0 k y).wd 1 k y) (m + 1 + 1) := h1
    rw [Mr.reach, show x.o 0 = x.o0 from rfl, show x.o 1 = x.o1 from rfl]
    cases ho0 : x.o0 <;> cases ho1 : x.o1
    · exact ⟨rfl, (h2.put 0 k false).put 1 k false⟩
    · exact ⟨rfl, (h2.put 0 k false).put 1 k true⟩
    · exact ⟨rfl, (h2.put 0 k true).put 1 k false⟩
    · refine ⟨rfl, ?_⟩
      have hx : (x.wd 0 k y).wd 1 k y = x := by
        have h3 : x.wd 0 k y = x := by rw [Md.wd, show x.o 0 = true from ho0, if_pos rfl]
        rw [h3, Md.wd, show x.o 1 = true from ho1, if_pos rfl]
      rw [hx] at h2
      exact h2
end
end Go.Proofs.Ythadomboiockhaa.Mu
/-
  .. and what Choose, Flush, Read, Heal, Both, New make of it. No program.
-/
namespace Go.Proofs.Ythadomboiockhaa.Mu
open Kd Mi
section
variable {pw g1 g2 : Nat} {s : Mr (one pw g1 g2)} {x : Md} {m : Nat} {G : Gd}
theorem Sees.c1 (h : Sees s x m) {i k : Nat} (hi : i < 2) (hk : k < x.a.length) (y : List UInt8) : (s.c1 (k : Int) y i).1 = !(x.o i) ∧ Sees (s.c1 (k : Int) y i).2 (x.wd i k y) (m + 1) := by
  obtain ⟨e, hw⟩ := h.wd hi hk y
  rw [Mr.c1, h.rd_at hi hk]
  cases ho : x.o i with
  | true =>
    rw [if_neg (by simp)]
    refine ⟨rfl, ?_⟩
    rw [Md.wd, ho, if_pos rfl]
    exact h.more (Nat.le_succ _)
  | false =>
    rw [if_pos (by simp)]
    by_cases hy : (x.l i).getD k zeroS = y
    · rw [if_pos (by simpa using hy)]
      refine ⟨rfl, ?_⟩
      rw [← hy, wd_same ho]
      exact h.more (Nat.le_succ _)
    · rw [if_neg (by simpa using hy)]
      exact ⟨by rw [e, eq13, ho], hw⟩
theorem Sees.choose (h : Sees s x m) (n : Int) (y : List UInt8) : (s.choose n y).1 = (x.write n y).1 ∧ Sees (s.choose n y).2 (x.write n y).2 (m + 2) := by
  rw [Mr.choose, Md.write, h.has]
  cases hh : x.has n with
  | false => exact ⟨rfl, h.more (by omega)⟩
  | true =>
    obtain ⟨k, rfl, hk⟩ := has_place hh
    rw [if_pos rfl, if_pos rfl, Int.toNat_natCast]
    obtain ⟨e0, h0⟩ := h.c1 (i := 0) (by omega) hk y
    obtain ⟨e1, h1⟩ := h0.c1 (i := 1) (by omega) (by rw [wd_a]; exact hk) y
    rw [wd_o] at e1
    rw [e0, e1]
    have h2 : Sees ((s.c1 (k : Int) y 0).2.c1 (k : Int) y 1).2 ((x.wd 0 k y).wd 1 k y) (m + 1 + 1) := h1
    rw [Mr.reach, show x.o 0 = x.o0 from rfl, show x.o 1 = x.o1 from rfl]
    cases ho0 : x.o0 <;> cases ho1 : x.o1
    · exact ⟨rfl, (h2.put 0 k false).put 1 k false⟩
    · exact ⟨rfl, (h2.put 0 k false).put 1 k true⟩
    · exact ⟨rfl, (h2.put 0 k true).put 1 k false⟩
    · refine ⟨rfl, ?_⟩
      have hx : (x.wd 0 k y).wd 1 k y = x := by
        have h3 : x.wd 0 k y = x := by rw [Md.wd, show x.o 0 = true from ho0, if_pos rfl]
        rw [h3, Md.wd, show x.o 1 = true from ho1, if_pos rfl]
      rw [hx] at h2
      exact h2
structure Dry (s : Mr (one pw g1 g2)) (x : Md) : Prop where
  d0 : x.o0 = true → See s.d 0 x.l0 x.o0 0
  d1 : x.o1 = true → See s.d 1 x.l1 x.o1 0
theorem Sees.dry (h : Sees s x 0) : Dry s x := ⟨fun _ => h.d0, fun _ => h.d1⟩
theorem Dry.put (h : Dry s x) (i k : Nat) (v : Bool) : Dry (s.put i k v) (x.put i k v) := by
  unfold Mr.put Md.put; split <;> exact ⟨h.d0, h.d1⟩
theorem Dry.wd (h : Dry s x) (hs : Sees s x m) {i k : Nat} (hi : i < 2) (hk : k < x.a.length) (y : List UInt8) : Dry (s.dev ((one pw g1 g2).wr s.d i (k : Int) y).2) (x.wd i k y) := by
  rcases two hi with rfl | rfl
  · cases ho : x.o0 with
    | true =>
      have hw : (one pw g1 g2).wr s.d 0 (k : Int) y = _ := hs.d0.write_no (n := (k : Int)) (x := y) (by rw [ho]; simp)
      rw [hw, Md.wd, show x.o 0 = true from ho, if_pos rfl]
      exact h
    | false =>
      obtain ⟨h1, h2, h3⟩ := hs.d0.write_yes (x := y) ho (k := k) (by rw [hs.n0]; exact hk)
      rw [Md.wd, show x.o 0 = false from ho, if_neg (by simp)]
      exact ⟨fun h1 => (by have h2 : x.o0 = true := h1; rw [ho] at h2; cases h2), fun h4 => h3 (by omega) (h.d1 h4)⟩
  · cases ho : x.o1 with
    | true =>
      have hw : (one pw g1 g2).wr s.d 1 (k : Int) y = _ := hs.d1.write_no (n := (k : Int)) (x := y) (by rw [ho]; simp)
      rw [hw, Md.wd, show x.o 1 = true from ho, if_pos rfl]
      exact h
    | false =>
      obtain ⟨h1, h2, h3⟩ := hs.d1.write_yes (x := y) ho (k := k) (by rw [hs.n1]; exact hk)
      rw [Md.wd, show x.o 1 = false from ho, if_neg (by simp)]
      exact ⟨fun h4 => h3 (by omega) (h.d0 h4), fun h1 => (by have h2 : x.o1 = true := h1; rw [ho] at h2; cases h2)⟩
theorem Sees.fl (h : Sees s x m) (hd : Dry s x) : s.flushed = (!x.o0, !x.o1) ∧ Sees ((s.fl0 0).fl0 1) x 0 := by
  have h0 : ((s.d.flush 0).1 == 0) = !x.o0 ∧ See (s.d.flush 0).2 0 x.l0 x.o0 0 ∧ ∀ {L' g' m'}, See s.d 1 L' g' m' → See (s.d.flush 0).2 1 L' g' m' := by
    cases ho : x.o0 with
    | true => rw [h.d0.flush_no ho]; exact ⟨rfl, ho ▸ hd.d0 ho, fun h => h⟩
    | false => obtain ⟨h1, h2, h3⟩ := h.d0.flush_yes ho; rw [h1]; exact ⟨rfl, ho ▸ h2, fun h => h3 (by omega) h⟩
  have hs1 := h0.2.2 h.d1
  have h1 : (((s.d.flush 0).2.flush 1).1 == 0) = !x.o1 ∧ See ((s.d.flush 0).2.flush 1).2 1 x.l1 x.o1 0 ∧ See ((s.d.flush 0).2.flush 1).2 0 x.l0 x.o0 0 := by
    cases ho : x.o1 with
    | true => rw [hs1.flush_no ho]; exact ⟨rfl, ho ▸ h0.2.2 (hd.d1 ho), h0.2.1⟩
    | false => obtain ⟨h1, h2, h3⟩ := hs1.flush_yes ho; rw [h1]; exact ⟨rfl, ho ▸ h2, h3 (by omega) h0.2.1⟩
  refine ⟨?_, h1.2.2, h1.2.1, h.a, h.b, h.n0, h.n1, h.nb⟩
  rw [Mr.flushed]
  show (((s.d.flush 0).1 == 0), (((s.d.flush 0).2.flush 1).1 == 0)) = _
  rw [h0.1, h1.1]
theorem Sees.flush (h : Sees s x m) (hd : Dry s x) : s.flush.1 = (if x.o0 && x.o1 then 13 else 0) ∧ Sees s.flush.2 x 0 := by
  obtain ⟨h1, h2⟩ := h.fl hd
  rw [Mr.flush, h1, h.there (by omega), h.there (by omega), show x.o 0 = x.o0 from rfl, show x.o 1 = x.o1 from rfl]
  refine ⟨?_, h2⟩
  cases x.o0 <;> cases x.o1 <;> rfl
theorem Sees.read (h : Sees s x m) (n : Int) : readM (one pw g1 g2) G s n = x.read G.f n := by
  rw [readM, Md.read, h.has]
  cases hh : x.has n with
  | false => rfl
  | true =>
    obtain ⟨k, rfl, hk⟩ := has_place hh
    rw [if_pos rfl, if_pos rfl, Int.toNat_natCast, h.right (by omega) hk, h.right (by omega) hk, h.rd_at (by omega) hk, h.rd_at (by omega) hk, h.there (by omega), h.there (by omega)]
    cases h0 : x.right G.f 0 k with
    | true => simp only [if_true, right_in h0]; rfl
    | false =>
      simp only [Bool.false_eq_true, if_false]
      cases h1 : x.right G.f 1 k with
      | true => simp only [if_true, right_in h1]; rfl
      | false =>
        simp only [Bool.false_eq_true, if_false]
        rw [show x.o 0 = x.o0 from rfl, show x.o 1 = x.o1 from rfl]
        cases x.o0 <;> cases x.o1 <;> rfl
theorem Sees.bothTo (h : Sees s x m) {k : Nat} (hk : k < x.a.length) : ∀ p, p ≤ 2 → Mi.bothTo (one pw g1 g2) G s.d (k : Int) p = x.bothTo G.f k p
  | 0, _ => rfl
  | p + 1, hp => by
    rw [Mi.bothTo, Md.bothTo, h.bothTo hk p (by omega), h.rdOk (by omega) hk, h.rd_at (by omega) hk]
    cases ho : x.o p
    · rfl
    · rfl
theorem Sees.both (h : Sees s x m) (n : Int) : bothL G s n = x.both G.f n := by
  rw [bothL, Md.both, h.has]
  cases hh : x.has n with
  | false => rfl
  | true =>
    obtain ⟨k, rfl, hk⟩ := has_place hh
    rw [if_pos rfl, if_pos rfl, Int.toNat_natCast, h.bothTo hk 2 (by omega)]
theorem Sees.mend (h : Sees s x m) {i k : Nat} (hi : i < 2) (hk : k < x.a.length) (ho : x.o i = false) (y : List UInt8) : (s.mend i k y).1 = 0 ∧ Sees (s.mend i k y).2 (x.mend i k y) (m + 1) := by
  obtain ⟨e, hw⟩ := h.wd hi hk y
  rw [ho] at e
  rw [Md.wd, ho, if_neg (by simp)] at hw
  rw [Mr.mend]
  rw [e]
  exact ⟨rfl, hw.put i k false⟩
theorem Sees.healTo (h : Sees s x m) {i k : Nat} (hi : i < 2) (hk : k < x.a.length) (ho : x.o i = false) (y : List UInt8) : (s.healTo i k y).1 = (1, 0) ∧ Sees (s.healTo i k y).2 (x.mend i k y) (m + 1) := by
  obtain ⟨e, hw⟩ := h.mend hi hk ho y
  rw [Mr.healTo, e]
  exact ⟨rfl, hw⟩
theorem Sees.heal (h : Sees s x m) (n : Int) : (s.heal G n).1 = (x.heal G.f n).1 ∧ Sees (s.heal G n).2 (x.heal G.f n).2 (m + 1) := by
  rw [Mr.heal, Md.heal, h.has]
  cases hh : x.has n with
  | false => exact ⟨rfl, h.more (by omega)⟩
  | true =>
    obtain ⟨k, rfl, hk⟩ := has_place hh
    rw [if_pos rfl, if_pos rfl, Int.toNat_natCast, h.there (by omega), h.there (by omega), h.right (by omega) hk, h.right (by omega) hk, show x.o 0 = x.o0 from rfl, show x.o 1 = x.o1 from rfl]
    cases ho0 : x.o0 with
    | true => exact ⟨rfl, h.more (by omega)⟩
    | false =>
      cases ho1 : x.o1 with
      | true => exact ⟨rfl, h.more (by omega)⟩
      | false =>
        rw [if_pos (show ((!false) && !false) = true from rfl), if_neg (show ¬ (false || false) = true by simp)]
        cases h0 : x.right G.f 0 k with
        | true =>
          have v0 : Mi.rightV (one pw g1 g2) G s 0 k = x.l0.getD k zeroS := h.rightV (i := 0) (by omega) hk h0
          simp only [if_true, v0]
          cases h1 : x.right G.f 1 k with
          | true =>
            have v1 : Mi.rightV (one pw g1 g2) G s 1 k = x.l1.getD k zeroS := h.rightV (i := 1) (by omega) hk h1
            simp only [if_true, v1, Bool.true_and]
            by_cases he : x.l0.getD k zeroS = x.l1.getD k zeroS
            · rw [if_pos he, if_pos (decide_eq_true he)]; exact ⟨rfl, h.more (by omega)⟩
            · rw [if_neg he, if_neg (by rw [decide_eq_false he]; simp)]; exact h.healTo (i := 1) (by omega) hk ho1 _
          | false => simp only [Bool.false_eq_true, if_false, Bool.false_and]; exact h.healTo (i := 1) (by omega) hk ho1 _
        | false =>
          simp only [Bool.false_eq_true, if_false]
          cases h1 : x.right G.f 1 k with
          | true =>
            have v1 : Mi.rightV (one pw g1 g2) G s 1 k = x.l1.getD k zeroS := h.rightV (i := 1) (by omega) hk h1
            simp only [if_true, v1]; exact h.healTo (i := 0) (by omega) hk ho0 _
          | false => simp only [Bool.false_eq_true, if_false]; exact ⟨trivial, h.more (by omega)⟩
theorem sees_new {S : Sy} {L0 L1 : List (List UInt8)} {o0 o1 : Bool} {n : Nat} (h0 : See S 0 L0 o0 m) (h1 : See S 1 L1 o1 m) (e0 : L0.length = n) (e1 : L1.length = n) :
    Sees (newM (one pw g1 g2) S) ⟨L0, L1, o0, o1, List.replicate n o0, List.replicate n o1⟩ m := by
  have hs : Sees (⟨S, List.replicate n o0, List.replicate n o1⟩ : Mr (one pw g1 g2)) ⟨L0, L1, o0, o1, List.replicate n o0, List.replicate n o1⟩ m :=
    ⟨h0, h1, rfl, rfl, by rw [List.length_replicate]; exact e0, by rw [List.length_replicate]; exact e1, by rw [List.length_replicate, List.length_replicate]⟩
  have hp : (one pw g1 g2).places S = n := by
    show min (S.at 0).st.length (S.at 1).st.length = n
    rw [h0.len, h1.len, e0, e1, Nat.min_self]
  have t0 : (one pw g1 g2).there S 0 = !o0 := hs.there (i := 0) (by omega)
  have t1 : (one pw g1 g2).there S 1 = !o1 := hs.there (i := 1) (by omega)
  have e : newM (one pw g1 g2) S = ⟨S, List.replicate n o0, List.replicate n o1⟩ := by
    show (⟨S, List.replicate ((one pw g1 g2).places S) (!((one pw g1 g2).there S 0)), List.replicate ((one pw g1 g2).places S) (!((one pw g1 g2).there S 1))⟩ : Mr (one pw g1 g2)) = _
    rw [hp, t0, t1, Bool.not_not, Bool.not_not]
  rw [e]
  exact hs
end
end Go.Proofs.Ythadomboiockhaa.Mu
/-
  .. Sync, Out, Rot; what waits of what is out. No program.
-/
namespace Go.Proofs.Ythadomboiockhaa.Mu
open Kd Mi
section
variable {pw g1 g2 : Nat} {s : Mr (one pw g1 g2)} {x : Md} {m : Nat} {G : Gd}
theorem dry_in (h0 : x.o0 = false) (h1 : x.o1 = false) : Dry s x := ⟨fun h => (by rw [h0] at h; cases h), fun h => (by rw [h1] at h; cases h)⟩
theorem Dry.write (hd : Dry s x) (h : Sees s x m) (n : Int) (y : List UInt8) : Dry (s.write n y).2 (x.write n y).2 := by
  rw [Mr.write, Md.write, h.has]
  cases hh : x.has n with
  | false => exact hd
  | true =>
    obtain ⟨k, rfl, hk⟩ := has_place hh
    rw [if_pos rfl, if_pos rfl, Int.toNat_natCast]
    obtain ⟨e0, h0⟩ := h.wd (i := 0) (by omega) hk y
    obtain ⟨e1, _⟩ := h0.wd (i := 1) (by omega) (by rw [wd_a]; exact hk) y
    have e1' : ((one pw g1 g2).wr (s.w0 (k : Int) y 0).d 1 (k : Int) y).1 = _ := e1
    rw [wd_o] at e1'
    rw [e0, e1', eq13, eq13]
    have h2 : Dry ((s.w0 (k : Int) y 0).w0 (k : Int) y 1) ((x.wd 0 k y).wd 1 k y) := (hd.wd h (by omega) hk y).wd h0 (by omega) (by rw [wd_a]; exact hk) y
    rw [Mr.reach, show x.o 0 = x.o0 from rfl, show x.o 1 = x.o1 from rfl]
    cases ho0 : x.o0 <;> cases ho1 : x.o1
    · exact (h2.put 0 k false).put 1 k false
    · exact (h2.put 0 k false).put 1 k true
    · exact (h2.put 0 k true).put 1 k false
    · have hx : (x.wd 0 k y).wd 1 k y = x := by
        have h3 : x.wd 0 k y = x := by rw [Md.wd, show x.o 0 = true from ho0, if_pos rfl]
        rw [h3, Md.wd, show x.o 1 = true from ho1, if_pos rfl]
      rw [hx] at h2
      exact h2
theorem Dry.c1 (hd : Dry s x) (h : Sees s x m) {i k : Nat} (hi : i < 2) (hk : k < x.a.length) (y : List UInt8) : Dry (s.c1 (k : Int) y i).2 (x.wd i k y) := by
  have hw := hd.wd h hi hk y
  rw [Mr.c1, h.rd_at hi hk]
  cases ho : x.o i with
  | true =>
    rw [if_neg (by simp), Md.wd, ho, if_pos rfl]
    exact hd
  | false =>
    rw [if_pos (by simp)]
    by_cases hy : (x.l i).getD k zeroS = y
    · rw [if_pos (by simpa using hy), ← hy, wd_same ho]
      exact hd
    · rw [if_neg (by simpa using hy)]
      exact hw
theorem Dry.choose (hd : Dry s x) (h : Sees s x m) (n : Int) (y : List UInt8) : Dry (s.choose n y).2 (x.write n y).2 := by
  rw [Mr.choose, Md.write, h.has]
  cases hh : x.has n with
  | false => exact hd
  | true =>
    obtain ⟨k, rfl, hk⟩ := has_place hh
    rw [if_pos rfl, if_pos rfl, Int.toNat_natCast]
    obtain ⟨e0, h0⟩ := h.c1 (i := 0) (by omega) hk y
    obtain ⟨e1, _⟩ := h0.c1 (i := 1) (by omega) (by rw [wd_a]; exact hk) y
    rw [wd_o] at e1
    rw [e0, e1]
    have h2 : Dry ((s.c1 (k : Int) y 0).2.c1 (k : Int) y 1).2 ((x.wd 0 k y).wd 1 k y) := (hd.c1 h (by omega) hk y).c1 h0 (by omega) (by rw [wd_a]; exact hk) y
    rw [Mr.reach, show x.o 0 = x.o0 from rfl, show x.o 1 = x.o1 from rfl]
    cases ho0 : x.o0 <;> cases ho1 : x.o1
    · exact (h2.put 0 k false).put 1 k false
    · exact (h2.put 0 k false).put 1 k true
    · exact (h2.put 0 k true).put 1 k false
    · have hx : (x.wd 0 k y).wd 1 k y = x := by
        have h3 : x.wd 0 k y = x := by rw [Md.wd, show x.o 0 = true from ho0, if_pos rfl]
        rw [h3, Md.wd, show x.o 1 = true from ho1, if_pos rfl]
      rw [hx] at h2
      exact h2
theorem Dry.heal (hd : Dry s x) (h : Sees s x m) (n : Int) : Dry (s.heal G n).2 (x.heal G.f n).2 := by
  by_cases hc : x.has n = true ∧ x.o0 = false ∧ x.o1 = false
  · obtain ⟨hh, h0, h1⟩ := hc
    have e : (x.heal G.f n).2.o0 = false ∧ (x.heal G.f n).2.o1 = false := by
      rw [Md.heal, hh, if_pos rfl, if_neg (by rw [h0, h1]; simp)]
      split
      · split
        · exact ⟨h0, h1⟩
        · obtain ⟨a, b, _⟩ := mend_o x 1 n.toNat (x.l0.getD n.toNat zeroS); exact ⟨a.trans h0, b.trans h1⟩
      · split
        · obtain ⟨a, b, _⟩ := mend_o x 0 n.toNat (x.l1.getD n.toNat zeroS); exact ⟨a.trans h0, b.trans h1⟩
        · exact ⟨h0, h1⟩
    exact dry_in e.1 e.2
  · have e : (s.heal G n).2 = s ∧ (x.heal G.f n).2 = x := by
      rw [Mr.heal, Md.heal, h.has]
      cases hh : x.has n with
      | false => exact ⟨rfl, rfl⟩
      | true =>
        rw [if_pos rfl, if_pos rfl, h.there (by omega), h.there (by omega), show x.o 0 = x.o0 from rfl, show x.o 1 = x.o1 from rfl]
        cases h0 : x.o0 with
        | true => exact ⟨rfl, rfl⟩
        | false =>
          cases h1 : x.o1 with
          | true => exact ⟨rfl, rfl⟩
          | false => exact absurd ⟨hh, h0, h1⟩ hc
    rw [e.1, e.2]
    exact hd
theorem Sees.catch1 (h : Sees s x m) {i k : Nat} (hi : i < 2) (hk : k < x.a.length) (ho : x.o i = false) : Sees (s.catch1 G i k) (x.catch1 G.f i k) (m + 1) := by
  rw [Mr.catch1, Md.catch1, h.st, h.right (by omega) hk]
  split
  · rename_i hc
    have hr : x.right G.f (1 - i) k = true := by
      cases hr : x.right G.f (1 - i) k
      · rw [hr, Bool.and_false] at hc; cases hc
      · rfl
    rw [h.rightV (by omega) hk hr]
    exact (h.mend hi hk ho _).2
  · exact h.more (Nat.le_succ _)
theorem Sees.catchTo (h : Sees s x m) {i : Nat} (hi : i < 2) (ho0 : x.o0 = false) (ho1 : x.o1 = false) : ∀ k, k ≤ x.a.length → Sees (s.catchTo G i k) (x.catchTo G.f i k) (m + k)
  | 0, _ => h
  | k + 1, hk => by
    obtain ⟨a, b, c⟩ := catchTo_o G.f x i k
    refine (h.catchTo hi ho0 ho1 k (by omega)).catch1 hi (by rw [c]; omega) ?_
    rcases two hi with rfl | rfl
    · exact a.trans ho0
    · exact b.trans ho1
theorem Sees.sync (h : Sees s x 0) : (s.sync G x.a.length).1 = (x.sync G.f).1 ∧ Sees (s.sync G x.a.length).2 (x.sync G.f).2 0 := by
  rw [Mr.sync, Md.sync, h.there (by omega), h.there (by omega), show x.o 0 = x.o0 from rfl, show x.o 1 = x.o1 from rfl]
  cases ho0 : x.o0 with
  | true => exact ⟨rfl, h⟩
  | false =>
    cases ho1 : x.o1 with
    | true => exact ⟨rfl, h⟩
    | false =>
      rw [if_pos (show ((!false) && !false) = true from rfl), if_neg (show ¬ (false || false) = true by simp)]
      obtain ⟨a, b, c⟩ := catchTo_o G.f x 0 x.a.length
      have h1 := h.catchTo (G := G) (i := 0) (by omega) ho0 ho1 x.a.length (Nat.le_refl _)
      have h2 : Sees (s.caught G x.a.length) (x.caught G.f) (0 + x.a.length + x.a.length) := h1.catchTo (i := 1) (by omega) (a.trans ho0) (b.trans ho1) x.a.length (by rw [c]; exact Nat.le_refl _)
      obtain ⟨d, e, g⟩ := catchTo_o G.f (x.catchTo G.f 0 x.a.length) 1 x.a.length
      have o0 : (x.caught G.f).o0 = false := (d.trans a).trans ho0
      have o1 : (x.caught G.f).o1 = false := (e.trans b).trans ho1
      obtain ⟨h3, h4⟩ := h2.fl (dry_in o0 o1)
      rw [o0, o1] at h3
      rw [if_pos (show (s.caught G x.a.length).flushed = (true, true) from h3)]
      refine ⟨?_, h4⟩
      rw [show (((s.caught G x.a.length).fl0 0).fl0 1).a = (x.caught G.f).a from h4.a, show (((s.caught G x.a.length).fl0 0).fl0 1).b = (x.caught G.f).b from h4.b]
theorem Dry.sync (h : Sees s x 0) : Dry (s.sync G x.a.length).2 (x.sync G.f).2 := (h.sync).2.dry
theorem Sees.out0 (h : Sees s x 0) (on : Bool) : Sees (⟨s.d.put 0 ((s.d.at 0).out on), s.a, s.b⟩ : Mr (one pw g1 g2)) (x.out 0 on) 0 := ⟨h.d0.out on, h.d1.put _ (by omega), h.a, h.b, h.n0, h.n1, h.nb⟩
theorem Sees.out1 (h : Sees s x 0) (on : Bool) : Sees (⟨s.d.put 1 ((s.d.at 1).out on), s.a, s.b⟩ : Mr (one pw g1 g2)) (x.out 1 on) 0 := ⟨h.d0.put _ (by omega), h.d1.out on, h.a, h.b, h.n0, h.n1, h.nb⟩
theorem Sees.rot0 (h : Sees s x 0) (n a : Int) (b : UInt8) : Sees (⟨s.d.rot 0 n a b, s.a, s.b⟩ : Mr (one pw g1 g2)) (x.rot 0 n a b) 0 := by
  have h1 := h.d0.rot n a b
  have h2 := h.d1.rot_other (i := 0) n a b (by omega)
  rw [h.n0] at h1
  rw [Md.rot]
  split
  · rename_i hc
    rw [if_pos hc] at h1
    exact ⟨h1, h2, h.a, h.b, by show (rotL _ _ _ _).length = _; rw [Mi.rotL_length]; exact h.n0, h.n1, h.nb⟩
  · rename_i hc
    rw [if_neg hc] at h1
    exact ⟨h1, h2, h.a, h.b, h.n0, h.n1, h.nb⟩
theorem Sees.rot1 (h : Sees s x 0) (n a : Int) (b : UInt8) : Sees (⟨s.d.rot 1 n a b, s.a, s.b⟩ : Mr (one pw g1 g2)) (x.rot 1 n a b) 0 := by
  have h1 := h.d1.rot n a b
  have h2 := h.d0.rot_other (i := 1) n a b (by omega)
  rw [h.n1] at h1
  rw [Md.rot]
  split
  · rename_i hc
    rw [if_pos hc] at h1
    exact ⟨h2, h1, h.a, h.b, h.n0, by show (rotL _ _ _ _).length = _; rw [Mi.rotL_length]; exact h.n1, h.nb⟩
  · rename_i hc
    rw [if_neg hc] at h1
    exact ⟨h2, h1, h.a, h.b, h.n0, h.n1, h.nb⟩
end
end Go.Proofs.Ythadomboiockhaa.Mu
/-
  Two devices, and a mirror of them, in the laws: what each call tells, and makes of what is told of them.
-/
namespace Go.Proofs.Ythadomboiockhaa.Mi
open Go.RowKit Kd
section
variable {p1 g1 p2 g2 g : Nat} {G : Gd} {w0 w w1 w' : World} {F F' : Nat → Prop} {m : Nat}
/-- Two devices, new behind w0. -/
structure LD (p1 g1 p2 g2 : Nat) (w0 w : World) (d : (Two p1 g1 p2 g2).L.St) (F : Nat → Prop) (L0 L1 : List (List UInt8)) (o0 o1 : Bool) (m : Nat) : Prop where
  live : LiveA (Two p1 g1 p2 g2).L w0 w d F
  d0 : See d.1 L0 o0 m
  d1 : See d.2 L1 o1 m
/-- A mirror of them. -/
structure LM (p1 g1 p2 g2 : Nat) (G : Gd) (g : Nat) (w0 w : World) (s : Mr (Two p1 g1 p2 g2)) (F : Nat → Prop) (x : Md) (m : Nat) : Prop where
  live : LiveA (ML (Two p1 g1 p2 g2) G g) w0 w s F
  sees : Sees s x m
  dry : Dry s x
/-- It returns v; the mirror is x now. -/
def RetM (v : Value) (p1 g1 p2 g2 : Nat) (G : Gd) (g : Nat) (w0 : World) (x : Md) (m : Nat) (F : Nat → Prop) (w : World) (e : Ending) (w' : World) : Prop :=
  e = .returned v ∧ ∃ (s : Mr (Two p1 g1 p2 g2)) (F' : Nat → Prop), LM p1 g1 p2 g2 G g w0 w' s F' x m ∧ Mv (ML (Two p1 g1 p2 g2) G g) w F w' s F'
variable {s s' : Mr (Two p1 g1 p2 g2)} {x x' : Md}
theorem LM.ret (h : LM p1 g1 p2 g2 G g w0 w s F x m) {v : Value} {e : Ending} {m' : Nat} (hr : RetA (ML (Two p1 g1 p2 g2) G g) v s' F w e w') (hs : Sees s' x' m') (hd : Dry s' x') : RetM v p1 g1 p2 g2 G g w0 x' m' F w e w' := by
  obtain ⟨rfl, F', hm⟩ := hr
  exact ⟨rfl, s', F', ⟨h.live.step hm, hs, hd⟩, hm⟩
theorem LM.below (h : LM p1 g1 p2 g2 G g w0 w s F x m) (hb : Below w.heap.size w w') : LM p1 g1 p2 g2 G g w0 w' s F x m := ⟨h.live.below hb, h.sees, h.dry⟩
theorem LM.more (h : LM p1 g1 p2 g2 G g w0 w s F x m) {m' : Nat} (hm : m ≤ m') : LM p1 g1 p2 g2 G g w0 w s F x m' := ⟨h.live, h.sees.more hm, h.dry⟩
theorem lm_write (h : LM p1 g1 p2 g2 G g w0 w s F x m) (n : Int) (y : List UInt8) (hy : y.length = 128) (hm : m < 900000) :
    Calls Try.prog 80 #[.pointer (some ⟨g, 0, none⟩), .int .i64 n, .agg (bva y)] w (RetM (.int .i64 (x.write n y).1) p1 g1 p2 g2 G g w0 (x.write n y).2 (m + 2) F w) := by
  obtain ⟨h1, h2⟩ := h.sees.write n y
  have hc := mwrite_any h.live.at_ h.sees.ok n y hy (Nat.lt_of_le_of_lt h.sees.most hm)
  rw [h1] at hc
  exact hc.mono fun _ _ hr => h.ret hr h2 (h.dry.write h.sees n y)
theorem lm_choose (h : LM p1 g1 p2 g2 G g w0 w s F x m) (n : Int) (y : List UInt8) (hy : y.length = 128) (hm : m < 900000) :
    Calls Try.prog 116 #[.pointer (some ⟨g, 0, none⟩), .int .i64 n, .agg (bva y)] w (RetM (.int .i64 (x.write n y).1) p1 g1 p2 g2 G g w0 (x.write n y).2 (m + 2) F w) := by
  obtain ⟨h1, h2⟩ := h.sees.choose n y
  have hc := mchoose_any h.live.at_ h.sees.ok n y hy (Nat.lt_of_le_of_lt h.sees.most hm)
  rw [h1] at hc
  exact hc.mono fun _ _ hr => h.ret hr h2 (h.dry.choose h.sees n y)
theorem lm_flush (h : LM p1 g1 p2 g2 G g w0 w s F x m) :
    Calls Try.prog 76 #[.pointer (some ⟨g, 0, none⟩)] w (RetM (.int .i64 (if x.o0 && x.o1 then 13 else 0)) p1 g1 p2 g2 G g w0 x 0 F w) := by
  obtain ⟨h1, h2⟩ := h.sees.flush h.dry
  have hc := mflushm_any h.live.at_
  rw [h1] at hc
  exact hc.mono fun _ _ hr => h.ret hr h2 h2.dry
theorem lm_read (h : LM p1 g1 p2 g2 G g w0 w s F x m) (n : Int) :
    Calls Try.prog 83 #[.pointer (some ⟨g, 0, none⟩), .int .i64 n] w (RetM (.tuple #[.agg (bva (x.read G.f n).1), .int .i64 (x.read G.f n).2]) p1 g1 p2 g2 G g w0 x m F w) := by
  have hc := mread_any h.live.at_ (by rw [h.sees.ok.1, h.sees.ok.2]) n
  rw [h.sees.read n] at hc
  exact hc.mono fun _ _ hr => h.ret hr h.sees h.dry
theorem lm_heal (h : LM p1 g1 p2 g2 G g w0 w s F x m) (n : Int) (hm : m < 900000) :
    Calls Try.prog 104 #[.pointer (some ⟨g, 0, none⟩), .int .i64 n] w (RetM (tup2 (x.heal G.f n).1) p1 g1 p2 g2 G g w0 (x.heal G.f n).2 (m + 1) F w) := by
  obtain ⟨h1, h2⟩ := h.sees.heal (G := G) n
  have hc := heal_any h.live.at_ h.sees.ok n (Nat.lt_of_le_of_lt h.sees.most (by omega))
  rw [h1] at hc
  exact hc.mono fun _ _ hr => h.ret hr h2 (h.dry.heal h.sees n)
theorem lm_both (h : LM p1 g1 p2 g2 G g w0 w s F x m) (n : Int) : Calls Try.prog 126 #[.pointer (some ⟨g, 0, none⟩), .int .i64 n] w (RetSec (x.both G.f n) w) := by
  have hc := both_any h.live.at_ n
  rwa [h.sees.both n] at hc
theorem lm_len (h : LM p1 g1 p2 g2 G g w0 w s F x m) : Calls Try.prog 70 #[.pointer (some ⟨g, 0, none⟩)] w (RetB (.int .i64 x.a.length) w) := by
  have hc := mlen_any h.live.at_
  rwa [h.sees.a] at hc
/-! ### The devices beneath a mirror -/
theorem ml_fst (h : (ML (Two p1 g1 p2 g2) G g).At w s F) : ∃ F1, Kd.Sys w p1 [g1] s.d.1 F1 ∧ s.d.1.ds.length = 1 ∧ ∀ {v : Value} {S : Sy} {e w'}, S.ds.length = 1 → RetS v p1 [g1] S F1 w e w' → RetA (ML (Two p1 g1 p2 g2) G g) v ⟨(S, s.d.2), s.a, s.b⟩ F w e w' := by
  obtain ⟨F0, hd, hl⟩ := ml_dev h
  obtain ⟨F1, h1, hl1⟩ := pair_fst hd
  exact ⟨F1, h1.1, h1.2, fun hS hr => hl (hl1 (RetS.reta hS hr))⟩
theorem ml_snd (h : (ML (Two p1 g1 p2 g2) G g).At w s F) : ∃ F2, Kd.Sys w p2 [g2] s.d.2 F2 ∧ s.d.2.ds.length = 1 ∧ ∀ {v : Value} {S : Sy} {e w'}, S.ds.length = 1 → RetS v p2 [g2] S F2 w e w' → RetA (ML (Two p1 g1 p2 g2) G g) v ⟨(s.d.1, S), s.a, s.b⟩ F w e w' := by
  obtain ⟨F0, hd, hl⟩ := ml_dev h
  obtain ⟨F1, h1, hl1⟩ := pair_snd hd
  exact ⟨F1, h1.1, h1.2, fun hS hr => hl (hl1 (RetS.reta hS hr))⟩
theorem lm_out0 (h : LM p1 g1 p2 g2 G g w0 w s F x 0) (on : Bool) : Calls Try.prog 45 #[.pointer (some ⟨g1, 0, none⟩), .bool on] w (RetM (.tuple #[]) p1 g1 p2 g2 G g w0 (x.out 0 on) 0 F w) := by
  obtain ⟨F1, h1, h2, hl⟩ := ml_fst h.live.at_
  have hs := h.sees.out0 on
  exact (out_sys h1 0 (by rw [h2]; omega) on).mono fun _ _ hr => h.ret (hl ((len_put _).trans h2) hr) hs hs.dry
theorem lm_out1 (h : LM p1 g1 p2 g2 G g w0 w s F x 0) (on : Bool) : Calls Try.prog 45 #[.pointer (some ⟨g2, 0, none⟩), .bool on] w (RetM (.tuple #[]) p1 g1 p2 g2 G g w0 (x.out 1 on) 0 F w) := by
  obtain ⟨F1, h1, h2, hl⟩ := ml_snd h.live.at_
  have hs := h.sees.out1 on
  exact (out_sys h1 0 (by rw [h2]; omega) on).mono fun _ _ hr => h.ret (hl ((len_put _).trans h2) hr) hs hs.dry
theorem rot_ds {S : Sy} (n a : Int) (b : UInt8) : (S.rot 0 n a b).ds.length = S.ds.length := by rw [Sy.rot]; split; exact len_put _; rfl
theorem lm_rot0 (h : LM p1 g1 p2 g2 G g w0 w s F x 0) (n a : Int) (b : UInt8) : Calls Try.prog 59 #[.pointer (some ⟨g1, 0, none⟩), .int .i64 n, .int .i64 a, .int .u8 (b.toNat : Int)] w (RetM (.bool (hasByte x.a.length n a)) p1 g1 p2 g2 G g w0 (x.rot 0 n a b) 0 F w) := by
  obtain ⟨F1, h1, h2, hl⟩ := ml_fst h.live.at_
  have hs := h.sees.rot0 n a b
  have hc := rot_sys h1 0 (by rw [h2]; omega) n a b
  rw [h.sees.d0.len, h.sees.n0] at hc
  exact hc.mono fun _ _ hr => h.ret (hl ((rot_ds n a b).trans h2) hr) hs hs.dry
theorem lm_rot1 (h : LM p1 g1 p2 g2 G g w0 w s F x 0) (n a : Int) (b : UInt8) : Calls Try.prog 59 #[.pointer (some ⟨g2, 0, none⟩), .int .i64 n, .int .i64 a, .int .u8 (b.toNat : Int)] w (RetM (.bool (hasByte x.a.length n a)) p1 g1 p2 g2 G g w0 (x.rot 1 n a b) 0 F w) := by
  obtain ⟨F1, h1, h2, hl⟩ := ml_snd h.live.at_
  have hs := h.sees.rot1 n a b
  have hc := rot_sys h1 0 (by rw [h2]; omega) n a b
  rw [h.sees.d1.len, h.sees.n1] at hc
  exact hc.mono fun _ _ hr => h.ret (hl ((rot_ds n a b).trans h2) hr) hs hs.dry
/-! ### Two devices ahead of a mirror -/
theorem LD.below {d : (Two p1 g1 p2 g2).L.St} {L0 L1 : List (List UInt8)} {o0 o1 : Bool} (h : LD p1 g1 p2 g2 w0 w d F L0 L1 o0 o1 m) (hb : Below w.heap.size w w') : LD p1 g1 p2 g2 w0 w' d F L0 L1 o0 o1 m := ⟨h.live.below hb, h.d0, h.d1⟩
theorem ld_new {S T : Sy} {F1 F2 : Nat → Prop} {L0 L1 : List (List UInt8)} {o0 o1 : Bool} (h1 : Live w0 w1 p1 [g1] S F1) (h2 : Live w1 w p2 [g2] T F2) (s1 : See S L0 o0 m) (s2 : See T L1 o1 m) :
    LD p1 g1 p2 g2 w0 w (S, T) (fun q => F1 q ∨ F2 q) L0 L1 o0 o1 m := by
  have hl1 := h1.lt
  refine ⟨⟨⟨F1, F2, ⟨(h1.below h2.bel).sys, s1.ds⟩, ⟨h2.sys, s2.ds⟩, fun q a b => by have := hl1 q a; have := h2.new q b; omega, fun q a => .inl a, fun q a => .inr a, ?_⟩, ?_, h1.bel.trans (h2.bel.mono h1.bel.size)⟩, s1, s2⟩
  · rintro q (hq | hq)
    · exact Nat.lt_of_lt_of_le (hl1 q hq) h2.bel.size
    · exact h2.lt q hq
  · rintro q (hq | hq)
    · exact h1.new q hq
    · exact Nat.le_trans h1.bel.size (h2.new q hq)
theorem lm_new (hR : ∀ A n c B m e, G.R A n c B m e) {d : (Two p1 g1 p2 g2).L.St} {L0 L1 : List (List UInt8)} {o0 o1 : Bool} {n : Nat} (h : LD p1 g1 p2 g2 w0 w d F L0 L1 o0 o1 0) (e0 : L0.length = n) (e1 : L1.length = n) (hl : G.l = [] := by rfl) :
    Calls Try.prog 42 #[.pointer (some ⟨g1, 0, none⟩), .pointer (some ⟨g2, 0, none⟩), G.v] w (fun e w' => ∃ g s F', e = .returned (.pointer (some ⟨g, 0, none⟩)) ∧ LM p1 g1 p2 g2 G g w0 w' s F' ⟨L0, L1, o0, o1, List.replicate n o0, List.replicate n o1⟩ 0 ∧ (∀ q, F' q → F q ∨ w.heap.size ≤ q) ∧ But F w w') := by
  refine (new_any (C := Two p1 g1 p2 g2) hR h.live.at_ hl).mono ?_
  rintro e w' ⟨g, F', rfl, h1, h2, h3⟩
  have hs : Sees (newM (Two p1 g1 p2 g2) d) ⟨L0, L1, o0, o1, List.replicate n o0, List.replicate n o1⟩ 0 := sees_new h.d0 h.d1 e0 e1
  exact ⟨g, _, F', rfl, ⟨⟨h1, fun q hq => (h2 q hq).elim (h.live.new q) (Nat.le_trans h.live.bel.size), h.live.bel.trans (h3.below (fun k hk hq => by have := h.live.new k hq; omega) h.live.bel.size)⟩, hs, hs.dry⟩, h2, h3⟩
end
end Go.Proofs.Ythadomboiockhaa.Mi
/-
  Two devices of one power, and a mirror of them, in the laws: what each call tells, and makes of what is told of them.
-/
namespace Go.Proofs.Ythadomboiockhaa.Mu
open Go.RowKit Kd Mi
section
variable {p g1 g2 g : Nat} {G : Gd} {w0 w w1 w' : World} {F F' : Nat → Prop} {m : Nat}
/-- Two devices, new behind w0. -/
structure LD (p g1 g2 : Nat) (w0 w : World) (d : Sy) (F : Nat → Prop) (L0 L1 : List (List UInt8)) (o0 o1 : Bool) (m : Nat) : Prop where
  live : LiveA (SysL p [g1, g2] 2) w0 w d F
  d0 : See d 0 L0 o0 m
  d1 : See d 1 L1 o1 m
/-- A mirror of them. -/
structure LM (p g1 g2 : Nat) (G : Gd) (g : Nat) (w0 w : World) (s : Mr (one p g1 g2)) (F : Nat → Prop) (x : Md) (m : Nat) : Prop where
  live : LiveA (ML (one p g1 g2) G g) w0 w s F
  sees : Sees s x m
  dry : Dry s x
/-- It returns v; the mirror is x now. -/
def RetM (v : Value) (p g1 g2 : Nat) (G : Gd) (g : Nat) (w0 : World) (x : Md) (m : Nat) (F : Nat → Prop) (w : World) (e : Ending) (w' : World) : Prop :=
  e = .returned v ∧ ∃ (s : Mr (one p g1 g2)) (F' : Nat → Prop), LM p g1 g2 G g w0 w' s F' x m ∧ Mv (ML (one p g1 g2) G g) w F w' s F'
variable {s s' : Mr (one p g1 g2)} {x x' : Md}
theorem LM.ret (h : LM p g1 g2 G g w0 w s F x m) {v : Value} {e : Ending} {m' : Nat} (hr : RetA (ML (one p g1 g2) G g) v s' F w e w') (hs : Sees s' x' m') (hd : Dry s' x') : RetM v p g1 g2 G g w0 x' m' F w e w' := by
  obtain ⟨rfl, F', hm⟩ := hr
  exact ⟨rfl, s', F', ⟨h.live.step hm, hs, hd⟩, hm⟩
theorem LM.below (h : LM p g1 g2 G g w0 w s F x m) (hb : Below w.heap.size w w') : LM p g1 g2 G g w0 w' s F x m := ⟨h.live.below hb, h.sees, h.dry⟩
theorem LM.more (h : LM p g1 g2 G g w0 w s F x m) {m' : Nat} (hm : m ≤ m') : LM p g1 g2 G g w0 w s F x m' := ⟨h.live, h.sees.more hm, h.dry⟩
theorem lm_write (h : LM p g1 g2 G g w0 w s F x m) (n : Int) (y : List UInt8) (hy : y.length = 128) (hm : m < 900000) :
    Calls Try.prog 80 #[.pointer (some ⟨g, 0, none⟩), .int .i64 n, .agg (bva y)] w (RetM (.int .i64 (x.write n y).1) p g1 g2 G g w0 (x.write n y).2 (m + 2) F w) := by
  obtain ⟨h1, h2⟩ := h.sees.write n y
  have hc := mwrite_any h.live.at_ h.sees.ok n y hy (Nat.lt_of_le_of_lt h.sees.most hm)
  rw [h1] at hc
  exact hc.mono fun _ _ hr => h.ret hr h2 (h.dry.write h.sees n y)
theorem lm_flush (h : LM p g1 g2 G g w0 w s F x m) :
    Calls Try.prog 76 #[.pointer (some ⟨g, 0, none⟩)] w (RetM (.int .i64 (if x.o0 && x.o1 then 13 else 0)) p g1 g2 G g w0 x 0 F w) := by
  obtain ⟨h1, h2⟩ := h.sees.flush h.dry
  have hc := mflushm_any h.live.at_
  rw [h1] at hc
  exact hc.mono fun _ _ hr => h.ret hr h2 h2.dry
theorem lm_read (h : LM p g1 g2 G g w0 w s F x m) (n : Int) :
    Calls Try.prog 83 #[.pointer (some ⟨g, 0, none⟩), .int .i64 n] w (RetM (.tuple #[.agg (bva (x.read G.f n).1), .int .i64 (x.read G.f n).2]) p g1 g2 G g w0 x m F w) := by
  have hc := mread_any h.live.at_ (by rw [h.sees.ok.1, h.sees.ok.2]) n
  rw [h.sees.read n] at hc
  exact hc.mono fun _ _ hr => h.ret hr h.sees h.dry
theorem lm_heal (h : LM p g1 g2 G g w0 w s F x m) (n : Int) (hm : m < 900000) :
    Calls Try.prog 104 #[.pointer (some ⟨g, 0, none⟩), .int .i64 n] w (RetM (tup2 (x.heal G.f n).1) p g1 g2 G g w0 (x.heal G.f n).2 (m + 1) F w) := by
  obtain ⟨h1, h2⟩ := h.sees.heal (G := G) n
  have hc := heal_any h.live.at_ h.sees.ok n (Nat.lt_of_le_of_lt h.sees.most (by omega))
  rw [h1] at hc
  exact hc.mono fun _ _ hr => h.ret hr h2 (h.dry.heal h.sees n)
theorem lm_both (h : LM p g1 g2 G g w0 w s F x m) (n : Int) : Calls Try.prog 126 #[.pointer (some ⟨g, 0, none⟩), .int .i64 n] w (RetSec (x.both G.f n) w) := by
  have hc := both_any h.live.at_ n
  rwa [h.sees.both n] at hc
theorem lm_len (h : LM p g1 g2 G g w0 w s F x m) : Calls Try.prog 70 #[.pointer (some ⟨g, 0, none⟩)] w (RetB (.int .i64 x.a.length) w) := by
  have hc := mlen_any h.live.at_
  rwa [h.sees.a] at hc
/-! ### The devices beneath a mirror -/
theorem ml_sys (h : (ML (one p g1 g2) G g).At w s F) : ∃ F1, Kd.Sys w p [g1, g2] s.d F1 ∧ s.d.ds.length = 2 ∧ ∀ {v : Value} {S : Sy} {e w'}, S.ds.length = 2 → RetS v p [g1, g2] S F1 w e w' → RetA (ML (one p g1 g2) G g) v ⟨S, s.a, s.b⟩ F w e w' := by
  obtain ⟨F1, h1, hl⟩ := ml_dev h
  exact ⟨F1, h1.1, h1.2, fun hS hr => hl (RetS.reta hS hr)⟩
theorem lm_out0 (h : LM p g1 g2 G g w0 w s F x 0) (on : Bool) : Calls Try.prog 45 #[.pointer (some ⟨g1, 0, none⟩), .bool on] w (RetM (.tuple #[]) p g1 g2 G g w0 (x.out 0 on) 0 F w) := by
  obtain ⟨F1, h1, h2, hl⟩ := ml_sys h.live.at_
  have hs := h.sees.out0 on
  exact (out_sys h1 0 (by rw [h2]; omega) on).mono fun _ _ hr => h.ret (hl ((len_put _).trans h2) hr) hs hs.dry
theorem lm_out1 (h : LM p g1 g2 G g w0 w s F x 0) (on : Bool) : Calls Try.prog 45 #[.pointer (some ⟨g2, 0, none⟩), .bool on] w (RetM (.tuple #[]) p g1 g2 G g w0 (x.out 1 on) 0 F w) := by
  obtain ⟨F1, h1, h2, hl⟩ := ml_sys h.live.at_
  have hs := h.sees.out1 on
  exact (out_sys h1 1 (by rw [h2]; omega) on).mono fun _ _ hr => h.ret (hl ((len_put _).trans h2) hr) hs hs.dry
theorem rot_dsT {S : Sy} (i : Nat) (n a : Int) (b : UInt8) : (S.rot i n a b).ds.length = S.ds.length := by rw [Sy.rot]; split; exact len_put _; rfl
theorem lm_rot0 (h : LM p g1 g2 G g w0 w s F x 0) (n a : Int) (b : UInt8) : Calls Try.prog 59 #[.pointer (some ⟨g1, 0, none⟩), .int .i64 n, .int .i64 a, .int .u8 (b.toNat : Int)] w (RetM (.bool (hasByte x.a.length n a)) p g1 g2 G g w0 (x.rot 0 n a b) 0 F w) := by
  obtain ⟨F1, h1, h2, hl⟩ := ml_sys h.live.at_
  have hs := h.sees.rot0 n a b
  have hc := rot_sys h1 0 (by rw [h2]; omega) n a b
  rw [h.sees.d0.len, h.sees.n0] at hc
  exact hc.mono fun _ _ hr => h.ret (hl ((rot_dsT 0 n a b).trans h2) hr) hs hs.dry
theorem lm_rot1 (h : LM p g1 g2 G g w0 w s F x 0) (n a : Int) (b : UInt8) : Calls Try.prog 59 #[.pointer (some ⟨g2, 0, none⟩), .int .i64 n, .int .i64 a, .int .u8 (b.toNat : Int)] w (RetM (.bool (hasByte x.a.length n a)) p g1 g2 G g w0 (x.rot 1 n a b) 0 F w) := by
  obtain ⟨F1, h1, h2, hl⟩ := ml_sys h.live.at_
  have hs := h.sees.rot1 n a b
  have hc := rot_sys h1 1 (by rw [h2]; omega) n a b
  rw [h.sees.d1.len, h.sees.n1] at hc
  exact hc.mono fun _ _ hr => h.ret (hl ((rot_dsT 1 n a b).trans h2) hr) hs hs.dry
/-- A device beneath it is read. -/
theorem lm_dread0 (h : LM p g1 g2 G g w0 w s F x m) (n : Int) : Calls Try.prog 27 #[.pointer (some ⟨g1, 0, none⟩), .int .i64 n] w (RetB (.tuple #[.agg (bva (if x.o0 = false ∧ 0 ≤ n ∧ n < (x.a.length : Int) then x.l0.getD n.toNat zeroS else zeroS)), .int .i64 (if x.o0 then 13 else if n < 0 ∨ (x.a.length : Int) ≤ n then 2 else 0)]) w) := by
  obtain ⟨F1, h1, hl⟩ := ml_dev h.live.at_
  have hc := (one p g1 g2).crd (i := 0) h1 (by omega) n
  rw [h.sees.rd (i := 0) (by omega) n] at hc
  exact hc
theorem lm_dread1 (h : LM p g1 g2 G g w0 w s F x m) (n : Int) : Calls Try.prog 27 #[.pointer (some ⟨g2, 0, none⟩), .int .i64 n] w (RetB (.tuple #[.agg (bva (if x.o1 = false ∧ 0 ≤ n ∧ n < (x.a.length : Int) then x.l1.getD n.toNat zeroS else zeroS)), .int .i64 (if x.o1 then 13 else if n < 0 ∨ (x.a.length : Int) ≤ n then 2 else 0)]) w) := by
  obtain ⟨F1, h1, hl⟩ := ml_dev h.live.at_
  have hc := (one p g1 g2).crd (i := 1) h1 (by omega) n
  rw [h.sees.rd (i := 1) (by omega) n] at hc
  exact hc
/-! ### Two devices ahead of a mirror -/
variable {d : Sy} {L0 L1 : List (List UInt8)} {o0 o1 : Bool}
theorem LD.below (h : LD p g1 g2 w0 w d F L0 L1 o0 o1 m) (hb : Below w.heap.size w w') : LD p g1 g2 w0 w' d F L0 L1 o0 o1 m := ⟨h.live.below hb, h.d0, h.d1⟩
theorem ld_new {S : Sy} (h : Live w0 w p [g1, g2] S F) (s1 : See S 0 L0 o0 m) (s2 : See S 1 L1 o1 m) : LD p g1 g2 w0 w S F L0 L1 o0 o1 m :=
  ⟨⟨⟨h.sys, s1.ds⟩, h.new, h.bel⟩, s1, s2⟩
/-- It returns v; the devices have that now. -/
def RetD (v : Value) (p g1 g2 : Nat) (w0 : World) (L0 L1 : List (List UInt8)) (o0 o1 : Bool) (m : Nat) (F : Nat → Prop) (w : World) (e : Ending) (w' : World) : Prop :=
  e = .returned v ∧ ∃ (d : Sy) (F' : Nat → Prop), LD p g1 g2 w0 w' d F' L0 L1 o0 o1 m ∧ (∀ q, F' q → F q ∨ w.heap.size ≤ q) ∧ But F w w'
theorem LD.ret (h : LD p g1 g2 w0 w d F L0 L1 o0 o1 m) {v : Value} {S : Sy} {L0' L1' : List (List UInt8)} {o0' o1' : Bool} {m' : Nat} {e : Ending} (hr : RetS v p [g1, g2] S F w e w') (s1 : See S 0 L0' o0' m') (s2 : See S 1 L1' o1' m') : RetD v p g1 g2 w0 L0' L1' o0' o1' m' F w e w' := by
  obtain ⟨rfl, F', h1, h2, h3⟩ := hr
  exact ⟨rfl, S, F', ⟨h.live.step ⟨⟨h1, s1.ds⟩, h2, h3⟩, s1, s2⟩, h2, h3⟩
theorem ld_write0 (h : LD p g1 g2 w0 w d F L0 L1 false o1 m) (k : Nat) (hk : k < L0.length) (y : List UInt8) (hy : y.length = 128) (hm : m < 900000) :
    Calls Try.prog 50 #[.pointer (some ⟨g1, 0, none⟩), .int .i64 k, .agg (bva y)] w (RetD (.int .i64 0) p g1 g2 w0 (L0.set k y) L1 false o1 (m + 1) F w) := by
  obtain ⟨h1, h2, h3⟩ := h.d0.write_yes (x := y) rfl hk
  have hc := write_any h.live.at_.1 0 (by rw [h.d0.ds]; omega) (k : Int) y hy (by have := h.d0.few; omega)
  rw [h1] at hc
  exact hc.mono fun _ _ hr => h.ret hr h2 ((h3 (by omega) h.d1).more (Nat.le_succ _))
theorem ld_write1 (h : LD p g1 g2 w0 w d F L0 L1 o0 false m) (k : Nat) (hk : k < L1.length) (y : List UInt8) (hy : y.length = 128) (hm : m < 900000) :
    Calls Try.prog 50 #[.pointer (some ⟨g2, 0, none⟩), .int .i64 k, .agg (bva y)] w (RetD (.int .i64 0) p g1 g2 w0 L0 (L1.set k y) o0 false (m + 1) F w) := by
  obtain ⟨h1, h2, h3⟩ := h.d1.write_yes (x := y) rfl hk
  have hc := write_any h.live.at_.1 1 (by rw [h.d0.ds]; omega) (k : Int) y hy (by have := h.d1.few; omega)
  rw [h1] at hc
  exact hc.mono fun _ _ hr => h.ret hr ((h3 (by omega) h.d0).more (Nat.le_succ _)) h2
theorem ld_flush0 (h : LD p g1 g2 w0 w d F L0 L1 false o1 m) :
    Calls Try.prog 54 #[.pointer (some ⟨g1, 0, none⟩)] w (RetD (.int .i64 0) p g1 g2 w0 L0 L1 false o1 m F w) := by
  obtain ⟨h1, h2, h3⟩ := h.d0.flush_yes rfl
  have hc := flush_any h.live.at_.1 0 (by rw [h.d0.ds]; omega)
  rw [h1] at hc
  exact hc.mono fun _ _ hr => h.ret hr (h2.more (Nat.zero_le _)) (h3 (by omega) h.d1)
/-- The second one's flush, when nothing waits of the first. -/
theorem ld_flush1 (h : LD p g1 g2 w0 w d F L0 L1 o0 false m) (hw : See d 0 L0 o0 0) :
    Calls Try.prog 54 #[.pointer (some ⟨g2, 0, none⟩)] w (RetD (.int .i64 0) p g1 g2 w0 L0 L1 o0 false 0 F w) := by
  obtain ⟨h1, h2, h3⟩ := h.d1.flush_yes rfl
  have hc := flush_any h.live.at_.1 1 (by rw [h.d0.ds]; omega)
  rw [h1] at hc
  exact hc.mono fun _ _ hr => h.ret hr (h3 (by omega) hw) h2
theorem ld_flush0' (h : LD p g1 g2 w0 w d F L0 L1 false o1 m) :
    Calls Try.prog 54 #[.pointer (some ⟨g1, 0, none⟩)] w (fun e w' => e = .returned (.int .i64 0) ∧ ∃ (d : Sy) (F' : Nat → Prop), LD p g1 g2 w0 w' d F' L0 L1 false o1 m ∧ See d 0 L0 false 0 ∧ (∀ q, F' q → F q ∨ w.heap.size ≤ q) ∧ But F w w') := by
  obtain ⟨h1, h2, h3⟩ := h.d0.flush_yes rfl
  have hc := flush_any h.live.at_.1 0 (by rw [h.d0.ds]; omega)
  rw [h1] at hc
  exact hc.mono fun _ _ hr => by
    obtain ⟨h4, S, F', h5, h6, h7⟩ := h.ret (L0' := L0) (L1' := L1) (m' := m) hr (h2.more (Nat.zero_le _)) (h3 (by omega) h.d1)
    obtain ⟨_, F2, h8, h9, h10⟩ := hr
    exact ⟨h4, _, F2, ⟨h.live.step ⟨⟨h8, h2.ds⟩, h9, h10⟩, h2.more (Nat.zero_le _), h3 (by omega) h.d1⟩, h2, h9, h10⟩
theorem lm_new (hR : ∀ A n c B m e, G.R A n c B m e) {n : Nat} (h : LD p g1 g2 w0 w d F L0 L1 o0 o1 0) (e0 : L0.length = n) (e1 : L1.length = n) (hl : G.l = [] := by rfl) :
    Calls Try.prog 42 #[.pointer (some ⟨g1, 0, none⟩), .pointer (some ⟨g2, 0, none⟩), G.v] w (fun e w' => ∃ g s F', e = .returned (.pointer (some ⟨g, 0, none⟩)) ∧ LM p g1 g2 G g w0 w' s F' ⟨L0, L1, o0, o1, List.replicate n o0, List.replicate n o1⟩ 0 ∧ (∀ q, F' q → F q ∨ w.heap.size ≤ q) ∧ But F w w') := by
  refine (new_any (C := one p g1 g2) hR h.live.at_ hl).mono ?_
  rintro e w' ⟨g, F', rfl, h1, h2, h3⟩
  have hs : Sees (newM (one p g1 g2) d) ⟨L0, L1, o0, o1, List.replicate n o0, List.replicate n o1⟩ 0 := sees_new h.d0 h.d1 e0 e1
  exact ⟨g, _, F', rfl, ⟨⟨h1, fun q hq => (h2 q hq).elim (h.live.new q) (Nat.le_trans h.live.bel.size), h.live.bel.trans (h3.below (fun k hk hq => by have := h.live.new k hq; omega) h.live.bel.size)⟩, hs, hs.dry⟩, h2, h3⟩
end
end Go.Proofs.Ythadomboiockhaa.Mu
/-
  The contract of sector.Good, and of the function that it answers.
-/
namespace Go.Proofs.Ythadomboiockhaa.Sx
open Go.RowKit Kd
attribute [local go_sem ↓] Go.wp_at_zero Go.wp_at_succ
/-- Good tells a function that keeps the cipher in a box of its own. -/
theorem good_iface (T : TypeId) (x : Value) (w : World) : Calls Try.prog 43 #[.iface T x] w (fun e w' => e = .returned (.func (.func 95) #[] #[.pointer (some ⟨w.heap.size, 0, none⟩)]) ∧ w' = w.alloc (.cells #[.iface T x] 152)) := by
  go_enter Try.func43, Try.ntmps43
  go_wp2_with fail
  go_ret
  exact ⟨rfl, rfl⟩
theorem good_nil (w : World) : Calls Try.prog 43 #[.nilIface] w (fun e w' => e = .returned (.func (.func 95) #[] #[.pointer (some ⟨w.heap.size, 0, none⟩)]) ∧ w' = w.alloc (.cells #[.nilIface] 152)) := by
  go_enter Try.func43, Try.ntmps43
  go_wp2_with fail
  go_ret
  exact ⟨rfl, rfl⟩
set_option maxRecDepth 100000 in
set_option maxHeartbeats 3200000 in
theorem goodf_any (v : Value) (ok : Bool) (n : Int) (x : List UInt8) (hx : x.length = 128) (b : Nat) (w : World) (hb : Blk w b #[v] 152) (g : Nat) (l : List UInt8)
    (hU : ∀ W, Calls Try.prog 84 #[v, .int .i64 n, .agg (bva x)] W (RetU g l ok W)) :
    Calls Try.prog 95 #[.int .i64 n, .agg (bva x), .pointer (some ⟨b, 0, none⟩)] w (RetB (.bool ok) w) := by
  obtain ⟨w2, hw2⟩ : ∃ w2, w2 = w.alloc (.cells (bva x) 38) := ⟨_, rfl⟩
  have B1 := Lib.hid (show Blk w2 w.heap.size (bva x) 38 from by rw [hw2]; exact heap_alloc_new _ _)
  have hbb : Below w.heap.size w w2 := by rw [hw2]; exact (Below.refl _ _).alloc (Nat.le_refl _) _
  have BB := Lib.hid hbb
  have c0 : (w.alloc (.cells (bva x) 38)).cell? ⟨b, 0, none⟩ = some v := by rw [← hw2]; exact (hb.below hbb).cell 0
  have HIX : Hid ((Try.prog.info? 38).map (·.size) = some (bva x).size) := by rw [bva_size, hx]; exact info_sec
  have HU := Lib.hid hU
  clear hU hb hbb hx
  go_enter Try.func95, Try.ntmps95
  go_wp2_with (refine wpList_load_row rfl 38 (.tmp 4) rfl w.heap.size rfl 38 (bva x) (0, 0) _ ?hg Try.underlying38 rfl HIX.out ?_; case hg => (rw [← hw2]; exact B1.out))
  rw [← hw2]
  clear hw2 c0
  refine (HU.out w2).mono ?_
  rintro e w3 ⟨A, k, c, rfl, _, hb3⟩
  have CB := Lib.hid (BB.out.trans (hb3.mono BB.out.size))
  clear hb3 BB B1
  go_wp2_with fail
  go_ret
  exact ⟨rfl, CB.out⟩
theorem goodf_enter (args : Array Value) (W : World) : (callFunc 95 args).run Try.prog W = .ok (.enter 95 args) W := by kernel_rfl
end Go.Proofs.Ythadomboiockhaa.Sx
/-
  Good by a cipher, as a function that a mirror is handed.
-/
namespace Go.Proofs.Ythadomboiockhaa.Sx
open Go.RowKit Kd
set_option maxRecDepth 100000 in
/-- Good by a cipher, in a box b. -/
def gdS (ci : SCiph) (b : Nat) : Mi.Gd where
  k := some 95
  c := #[.pointer (some ⟨b, 0, none⟩)]
  l := [(b, #[ci.v], 152)]
  ty := by
    intro x hx
    rw [List.mem_singleton] at hx
    subst hx
    exact ⟨show 152 ≠ 4 by decide, show 152 ≠ 176 by decide⟩
  f := fun n x => okS ci.f n x
  R _ _ _ _ _ _ := True
  none_ h := by cases h
  enter k' h args W := by injection h with h; subst h; exact goodf_enter args W
  call k' h w n x hl hx := by
    injection h with h; subst h
    exact goodf_any ci.v _ n x hx b w (hl _ (List.mem_singleton.2 rfl)) _ _ (fun W => unpack_any ci n x hx W)
end Go.Proofs.Ythadomboiockhaa.Sx
