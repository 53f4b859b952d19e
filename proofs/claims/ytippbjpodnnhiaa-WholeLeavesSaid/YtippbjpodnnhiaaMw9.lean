/-
  Texts of this seat, one behind the other: KgFrom, KgAwake, EqSelf, EqBytes, OpenI, KgLaw, KgCan, KcTopAw, Open, OpenA.
-/
import Derived.ChangeKeysEq
import Derived.OpenShut
import Derived.Deep.Slices
import Derived.ProofKit
import Derived.Test.YtippbjpodnnhiaaMw8
/-
  The contracts of From and New: a tree that holds these nodes, if they may be held.
-/
namespace Go.Proofs.Ytippbjpodnnhiaa.Kg
open Go.RowKit
variable {ci : Ciph}
attribute [local go_sem ↓] Go.wp_at_zero Go.wp_at_succ
/-- The leaf behind the last one. -/
def endL : Int → List Nd → Int
  | e, [] => e
  | _, x :: l => endL (x.a + manyI x.d) l
theorem endL_snoc : ∀ (e : Int) (a : List Nd) (x : Nd), endL e (a ++ [x]) = x.a + manyI x.d
  | _, [], _ => rfl
  | _, y :: a, x => endL_snoc (y.a + manyI y.d) a x
theorem okS_snoc : ∀ (e : Int) (a : List Nd) (x : Nd), okS e (a ++ [x]) ↔ okS e a ∧ okH x ∧ endL e a ≤ x.a
  | e, [], x => by simp [okS, endL]
  | e, y :: a, x => by
    have h := okS_snoc (y.a + manyI y.d) a x
    rw [List.cons_append, okS, okS, endL, h]
    constructor
    · rintro ⟨h1, h2, h3, h4⟩; exact ⟨⟨h1, h2, h3⟩, h4⟩
    · rintro ⟨⟨h1, h2, h3⟩, h4⟩; exact ⟨h1, h2, h3, h4⟩
theorem endL_bd : ∀ {e : Int} {a : List Nd}, okS e a → e ≤ 131072 → e ≤ endL e a ∧ endL e a ≤ 131072
  | e, [], _, h => ⟨Int.le_refl _, h⟩
  | e, x :: a, h, he => by
    have := endL_bd h.2.2 h.1.2.2.2.2.1
    have hm := h.1.many
    have := h.2.1
    rw [endL]; omega
theorem okS_pre {e : Int} {l : List Nd} (h : okS e l) (k : Nat) : okS e (l.take k) := by
  have e1 := List.take_append_drop k l
  rw [← e1] at h
  exact (okS_split h).1
theorem okS_not_next {l : List Nd} {k : Nat} (hk : k < l.length) (h : ¬ (okH l[k] ∧ endL 0 (l.take k) ≤ (l[k]).a)) : ¬ okS 0 l := fun hl => by
  have h1 := okS_pre hl (k + 1)
  rw [List.take_succ_eq_append_getElem hk, okS_snoc] at h1
  exact h h1.2
/-- What From answers. -/
def RetFrom (ci : Ciph) (l : List Nd) (w : World) (e : Ending) (w' : World) : Prop :=
  ((okS 0 l ∧ ∃ g F, e = .returned (.tuple #[.pointer (some ⟨g, 0, none⟩), .int .i64 0]) ∧ Tr ci w' g l F ∧ ∀ k, F k → w.heap.size ≤ k) ∨
   (¬ okS 0 l ∧ e = .returned (.tuple #[.pointer none, .int .i64 3]))) ∧ Below w.heap.size w w'
theorem tr_new {w W : World} {A : Option Addr} {n c : Nat} {l : List Nd} {base : Nat} (ho : w.ownsRow base 61 34 (.slice A n c) n (nvs l)) (hl : l.length = n) (hok : okS 0 l) (hbw : Below base W w) (hbase : base = W.heap.size) :
    ∃ F, Tr ci (w.alloc (.cells #[ci.v, .slice A n c] 85)) w.heap.size l F ∧ ∀ k, F k → base ≤ k := by
  have hlo := own_loN ho
  refine ⟨fun k => k = w.heap.size ∨ (Value.slice A n c).ownBlock = some k, ⟨A, n, c, ⟨heap_alloc_new _ _, own_moreN (own_belowN ho ((Below.refl _ _).alloc (Nat.le_refl _) _)) (Nat.zero_le _), hl, hok, fun h => by have := (hlo _ h).2; omega⟩, .inl rfl, fun k hk => .inr hk, fun k hk => ?_⟩, fun k hk => ?_⟩
  · rcases hk with rfl | hk
    · simp
    · have := (hlo k hk).2; simp; omega
  · rcases hk with rfl | hk
    · rw [hbase]; exact hbw.size
    · exact (hlo k hk).1
set_option maxRecDepth 100000 in
set_option maxHeartbeats 1600000 in
theorem from_any {B : Nat} (A : Option Addr) (n c : Nat) (l : List Nd) (w : World) (hl : l.length = n) (h3 : ∀ x ∈ l, x.s.length = 32) (ha : ∀ x ∈ l, 0 ≤ x.a) (hB : B ≤ w.heap.size) (hr : Rd B w A (nvs l)) (hn : n ≤ 1000000) :
    Calls Try.prog 22 #[ci.v, .slice A n c] w (RetFrom ci l w) := by
  obtain ⟨cz, hcz⟩ : ∃ cz, cz = ndC zeroNd := ⟨_, rfl⟩
  have hzh : ∀ W, (zeroValue 61).run Try.prog W = .ok (.agg cz) W := fun _ => by rw [hcz]; kernel_rfl
  have ZH : Hid (cz.size = 34) := by show _ = _; rw [hcz]; exact ndC_size rfl
  have HR := Lib.hid (hr.more hB)
  have HL := Lib.hid hl
  have H3 := Lib.hid h3
  have HA := Lib.hid ha
  clear hl h3 ha hB hr hcz
  unfold Ciph.v
  go_enter Try.func22, Try.ntmps22
  go_wp2_with fail
  go_loopw [6, 8, 13] (fun o _ i wr => ∃ k : Nat, k ≤ n ∧ i = .int .i64 k ∧ o = .int .u64 (endL 0 (l.take k)) ∧ Hid (okS 0 (l.take k)) ∧ Below w.heap.size w wr) (fun _ _ i _ => n - (intOf i).toNat)
  case atStart => exact ⟨0, by omega, rfl, rfl, trivial, Below.refl _ _⟩
  case round =>
    obtain ⟨k, hk, rfl, rfl, HOK, hbw⟩ := hrel
    by_cases hlt : k < n
    · have hkl : k < l.length := by rw [HL.out]; exact hlt
      obtain ⟨ad, hA, hbl, hcell⟩ := rd_node (HR.out.below hbw) H3.out hkl
      subst hA
      obtain ⟨x, hxe⟩ : ∃ x, x = l[k] := ⟨_, rfl⟩
      have hx3 : x.s.length = 32 := by rw [hxe]; exact H3.out _ (List.getElem_mem hkl)
      have hxa : 0 ≤ x.a := by rw [hxe]; exact HA.out _ (List.getElem_mem hkl)
      have hnot := okS_not_next hkl
      have hsn : l.take (k + 1) = l.take k ++ [x] := by rw [hxe]; exact List.take_succ_eq_append_getElem hkl
      rw [← hxe] at hcell hnot
      obtain ⟨C, hC⟩ : ∃ C, C = endL 0 (l.take k) := ⟨_, rfl⟩
      have hCb := endL_bd HOK.out (by omega)
      rw [← hC] at hnot hCb ⊢
      have hnb := nodeB_iff hxa hx3
      have HCE := Lib.hid hcell
      have HI : Hid ((Try.prog.info? 61).map (·.size) = some (ndV x).length) := by rw [ndV_length hx3]; exact info_held
      have HIC : Hid ((Try.prog.info? 61).map (·.size) = some (ndC x).size) := by rw [ndC_size hx3]; exact info_held
      have HX3 := Lib.hid hx3
      have HXA := Lib.hid hxa
      have HNB := Lib.hid hnb
      have HNT := Lib.hid hnot
      have HSN := Lib.hid hsn
      have HBW := Lib.hid hbw
      have HCC := Lib.hid hC
      have k0 : (0 : Int) ≤ (k : Int) := by omega
      have k1 : (k : Int) < (n : Int) := by omega
      have ek : IntKind.i64.wrap ((k : Int) + 1) = ((k + 1 : Nat) : Int) := by rw [IntWalk.i64_in _ (by omega)]; omega
      clear hcell hxe hx3 hxa hnot hsn hC hbw hnb
      go_wp2_with (first
        | (refine wpList_load_at rfl 61 (.tmp 15) rfl (ad.add (k * 34)) rfl HCE.out Try.underlying61 rfl HI.out ?_
           change wpList _ _ _ _ (Act.put _ _ (.agg (ndC x))) _)
        | (refine wpList_store_row rfl 61 (.tmp 8) (.tmp 16) rfl wr.heap.size (ndC x) rfl rfl 61 cz (heap_alloc_new _ _) HIC.out (by rw [ndC_size HX3.out, ZH.out]) (ndC_one _) ?_
           generalize hwx : World.setRow _ _ _ = wx
           have E1 := Lib.hid (show Blk wx wr.heap.size (ndC x) 61 by rw [← hwx]; exact setRow_heap _ _ _ _ _ _ (heap_alloc_new _ _))
           have EB := Lib.hid (show Below w.heap.size w wx by rw [← hwx]; exact below_setRow (HBW.out.alloc HBW.out.size _) HBW.out.size _)
           clear hwx)
        | (refine wpList_load_row rfl 61 (.tmp 8) rfl wr.heap.size rfl 61 (ndC x) (0, 0) _ E1.out Try.underlying61 rfl HIC.out ?_))
      refine (isNode_any x HXA.out _).mono ?_
      rintro e w2 ⟨rfl, bw⟩
      have D1 := Lib.hid (E1.out.below bw)
      have DB := Lib.hid (EB.out.trans (bw.mono EB.out.size))
      have c0 := ndt_d D1.out
      have c1 := ndt_a D1.out
      clear bw E1 EB
      by_cases hnb : nodeB x = true
      · have hox := HNB.out.1 hnb
        rw [hnb]
        by_cases hlt' : x.a < C
        · have hd : decide (x.a < C) = true := decide_eq_true hlt'
          have HNO := Lib.hid (HNT.out (by rintro ⟨_, h⟩; omega))
          clear hnb hlt'
          go_wp2_with fail
          go_ret2
          exact ⟨.inr ⟨HNO.out, rfl⟩, DB.out⟩
        · have hd : decide (x.a < C) = false := decide_eq_false hlt'
          obtain ⟨M, hM⟩ : ∃ M, M = manyI x.d := ⟨_, rfl⟩
          have HQ := Lib.hid (show ∀ W, Calls Try.prog 40 #[.int .i64 x.d] W (RetQ (.int .u64 M) W) from fun W => by rw [hM]; exact leaves_q x.d hox.1 hox.2.1 W)
          have hmm := hox.many
          have hx5 := hox.2.2.2.2.1
          rw [← hM] at hmm hx5
          have ea : IntKind.u64.wrap (x.a + M) = x.a + M := IntWalk.u64_in _ (by have := HXA.out; omega)
          have HOK2 := Lib.hid (show okS 0 (l.take (k + 1)) by rw [HSN.out, okS_snoc]; exact ⟨HOK.out, hox, by rw [← HCC.out]; omega⟩)
          have HEN := Lib.hid (show endL 0 (l.take (k + 1)) = x.a + M by rw [HSN.out, endL_snoc, hM])
          clear hnb hlt' hox hM hmm hx5
          go_wp2_with fail
          go_quiet ((go_at_call 40; exact RetQ.quiet (HQ.out _)))
          go_wp2_with fail
          go_roundw
          case rel => exact ⟨k + 1, by omega, by go_num, by rw [HEN.out], HOK2, below_drewN' DB.out _⟩
          case measure => simp [intOf]; omega
      · have hnb' : nodeB x = false := by simpa using hnb
        have HNO := Lib.hid (HNT.out (by rintro ⟨h, _⟩; exact hnb (HNB.out.2 h)))
        rw [hnb']
        clear hnb hnb'
        go_wp2_with fail
        go_ret2
        exact ⟨.inr ⟨HNO.out, rfl⟩, DB.out⟩
    · obtain rfl : k = n := by omega
      have hok : okS 0 l := by have := HOK.out; rwa [List.take_of_length_le (by rw [HL.out]; exact Nat.le_refl _)] at this
      have HBW := Lib.hid hbw
      have HK := Lib.hid hok
      clear hbw hok
      go_wp2_with fail
      refine (sclone_any A k c l _ HL.out H3.out HBW.out.size (HR.out.below HBW.out) hn).mono ?_
      rintro e w2 ⟨A2, n2, c2, rfl, ho, bw⟩
      have HO := Lib.hid ho
      have HB := Lib.hid bw
      clear ho bw
      go_wp2_with fail
      go_ret2
      have hn2 : k = n2 := by
        have h1 := HO.out.1
        rw [nvs_length H3.out, HL.out] at h1; omega
      subst hn2
      obtain ⟨F, hF, hlo⟩ := tr_new (ci := ci) HO.out HL.out HK.out HB.out rfl
      have hs := HBW.out.size
      exact ⟨.inl ⟨HK.out, _, F, rfl, hF, fun q hq => Nat.le_trans hs (hlo q hq)⟩, (HBW.out.trans (HB.out.mono hs)).alloc (Nat.le_trans hs HB.out.size) _⟩
theorem from_nil (v : Value) (w : World) : Calls Try.prog 22 #[.nilIface, v] w (fun e w' => e = .returned (.tuple #[.pointer none, .int .i64 1]) ∧ w' = w) := by
  go_enter Try.func22, Try.ntmps22
  go_wp2_with fail
  go_ret2
  exact ⟨rfl, rfl⟩
set_option maxRecDepth 100000 in
theorem build_seed (s : List UInt8) (hs : s.length = 32) (W : World) : (Instr.build 61 #[(2, .agg (bva s))]).run Try.prog W = .ok (.agg (ndC ⟨0, 0, s⟩)) W := by
  have e : Try.prog.built 61 [(2, .agg (bva s))] = Instr.fill places3 (ndC zeroNd) [(2, .agg (bva s))] := by kernel_rfl
  refine run_build W 61 _ _ ?_
  show Try.prog.built 61 [(2, .agg (bva s))] = _
  rw [e]
  have s0 : (ndC zeroNd).size = 34 := ndC_size rfl
  have c3 : (Value.agg (bva s)).cells = bva s := rfl
  have l3 : (bva s).toList.length = 32 := by rw [Array.length_toList, bva_size, hs]
  obtain ⟨z3, f3⟩ := Great.foldl_set 2 (bva s).toList 0 (ndC zeroNd)
  generalize hC : ((bva s).toList.zipIdx 0).foldl (fun cs (x : Value × Nat) => cs.setIfInBounds (2 + x.2) x.1) (ndC zeroNd) = C at z3 f3
  rw [fill_step places3 (off := 2) (size := 32) rfl _ (by rw [c3, bva_size, hs]) _ (by rw [s0]; omega), c3, hC, Instr.fill]
  congr 1
  have hL : ∀ i : Nat, (ndC ⟨0, 0, s⟩)[i]? = (Value.int .i64 0 :: Value.int .u64 0 :: bv s)[i]? := fun i => by rw [ndC, List.getElem?_toArray]; rfl
  have hZ : ∀ i : Nat, (ndC zeroNd)[i]? = (Value.int .i64 0 :: Value.int .u64 0 :: bv zeroNd.s)[i]? := fun i => by rw [ndC, List.getElem?_toArray]; rfl
  apply Array.ext_getElem?
  intro j
  rw [f3 j, s0, l3, hL, hZ]
  match j with
  | 0 => simp
  | 1 => simp
  | j + 2 =>
    by_cases h3 : j < 32
    · rw [if_pos (by omega), List.getElem?_cons_succ, List.getElem?_cons_succ]
      simp [bva]
    · rw [if_neg (by omega), List.getElem?_eq_none (by simp [bv_length, zeroNd]; omega), List.getElem?_eq_none (by simp [bv_length, hs]; omega)]
/-- What New answers. -/
def RetNew (ci : Ciph) (l : List Nd) (w : World) (e : Ending) (w' : World) : Prop :=
  (∃ g F, e = .returned (.pointer (some ⟨g, 0, none⟩)) ∧ Tr ci w' g l F ∧ ∀ k, F k → w.heap.size ≤ k) ∧ Below w.heap.size w w'
theorem okS_root {s : List UInt8} (hs : s.length = 32) : okS 0 [⟨0, 0, s⟩] := ⟨⟨Int.le_refl 0, by show (0 : Int) ≤ 17; omega, Int.le_refl 0, by show (0 : Int) % manyI 0 = 0; decide, by show (0 : Int) + manyI 0 ≤ 131072; decide, hs⟩, Int.le_refl 0, trivial⟩
set_option maxRecDepth 100000 in
set_option maxHeartbeats 800000 in
theorem new_any (s : List UInt8) (hs : s.length = 32) (w : World) : Calls Try.prog 19 #[ci.v, .agg (bva s)] w (RetNew ci [⟨0, 0, s⟩] w) := by
  have HK : Hid ((Try.prog.info? 43).map (·.size) = some (bva s).size) := by rw [bva_size, hs]; exact info_keyL
  have B1 := Lib.hid (show Blk (w.alloc (.cells (bva s) 43)) w.heap.size (bva s) 43 from heap_alloc_new _ _)
  have BB := Lib.hid (show Below w.heap.size w (w.alloc (.cells (bva s) 43)) from (Below.refl _ _).alloc (Nat.le_refl _) _)
  have HS := Lib.hid hs
  obtain ⟨x, hx⟩ : ∃ x : Nd, x = ⟨0, 0, s⟩ := ⟨_, rfl⟩
  have hxs : x.s.length = 32 := by rw [hx]; exact hs
  have HBS := Lib.hid (show ∀ W, (Instr.build 61 #[(2, .agg (bva s))]).run Try.prog W = .ok (.agg (ndC x)) W from fun W => by rw [hx]; exact build_seed s hs W)
  have HXS := Lib.hid hxs
  have HX := Lib.hid hx
  obtain ⟨ie, hie, hz0, hz1, hz2⟩ := info_parts info_heldW
  clear hs hx hxs
  unfold Ciph.v
  go_enter Try.func19, Try.ntmps19
  go_wp2_with (first
    | (refine wpList_load_row rfl 43 (.tmp 3) rfl w.heap.size rfl 43 (bva s) (0, 0) _ B1.out Try.underlying43 rfl HK.out ?_)
    | (refine wpList_build rfl 61 #[(2, .tmp 9)] rfl (v := .agg (ndC x)) ?hbld ?_; case hbld => (simp only [List.map_toArray, List.map_cons, List.map_nil]; show (Instr.build 61 #[(2, .agg (bva s))]).run Try.prog _ = _; exact HBS.out _))
    | (refine wpList_buildSlice rfl 22 61 1 #[(0, .tmp 10)] rfl (ndC x) ie _ Try.underlying22 hie hz0 (by rw [hz1]; omega) (by rw [hz1]; omega) (by rw [hz1]; simp only [List.map_toArray, List.map_cons, List.map_nil]; exact one_fill x HXS.out) ?_))
  have hw2 : Below w.heap.size w ((w.alloc (.cells (bva s) 43)).alloc (.cells (ndC x) 61)) := BB.out.alloc BB.out.size _
  have hrd : Rd ((w.alloc (.cells (bva s) 43)).alloc (.cells (ndC x) 61)).heap.size ((w.alloc (.cells (bva s) 43)).alloc (.cells (ndC x) 61)) (some ⟨w.heap.size + 1, 0, none⟩) (nvs [x]) := by
    rw [nvs, nvs, List.append_nil]
    exact rd_ndC (heap_alloc2_new _ _ _)
  have HW := Lib.hid hw2
  have HR := Lib.hid hrd
  have HRO := Lib.hid (show okS 0 [x] by rw [HX.out]; exact okS_root HS.out)
  clear hw2 hrd
  refine (from_any (some ⟨w.heap.size + 1, 0, none⟩) 1 1 [x] _ rfl (fun y hy => by rw [List.mem_singleton] at hy; rw [hy]; exact HXS.out) (fun y hy => by rw [List.mem_singleton] at hy; rw [hy, HX.out]; exact Int.le_refl 0) (Nat.le_refl _) HR.out (by omega)).mono ?_
  rintro e w2 ⟨⟨_, g, F, rfl, ht, hF⟩ | ⟨hno, _⟩, bw⟩
  · have HT := Lib.hid ht
    have HF := Lib.hid hF
    have HB := Lib.hid bw
    clear ht hF bw
    go_wp2_with fail
    go_ret
    rw [← HX.out]
    exact ⟨⟨g, F, rfl, HT.out, fun k hk => Nat.le_trans HW.out.size (HF.out k hk)⟩, HW.out.trans (HB.out.mono HW.out.size)⟩
  · exact absurd HRO.out hno
set_option maxRecDepth 100000 in
set_option maxHeartbeats 800000 in
theorem new_nil (s : List UInt8) (hs : s.length = 32) (w : World) : Calls Try.prog 19 #[.nilIface, .agg (bva s)] w (RetB (.pointer none) w) := by
  have HK : Hid ((Try.prog.info? 43).map (·.size) = some (bva s).size) := by rw [bva_size, hs]; exact info_keyL
  have B1 := Lib.hid (show Blk (w.alloc (.cells (bva s) 43)) w.heap.size (bva s) 43 from heap_alloc_new _ _)
  have BB := Lib.hid (show Below w.heap.size w (w.alloc (.cells (bva s) 43)) from (Below.refl _ _).alloc (Nat.le_refl _) _)
  have HS := Lib.hid hs
  obtain ⟨x, hx⟩ : ∃ x : Nd, x = ⟨0, 0, s⟩ := ⟨_, rfl⟩
  have hxs : x.s.length = 32 := by rw [hx]; exact hs
  have HBS := Lib.hid (show ∀ W, (Instr.build 61 #[(2, .agg (bva s))]).run Try.prog W = .ok (.agg (ndC x)) W from fun W => by rw [hx]; exact build_seed s hs W)
  have HXS := Lib.hid hxs
  have HX := Lib.hid hx
  obtain ⟨ie, hie, hz0, hz1, hz2⟩ := info_parts info_heldW
  clear hs hx hxs
  go_enter Try.func19, Try.ntmps19
  go_wp2_with (first
    | (refine wpList_load_row rfl 43 (.tmp 3) rfl w.heap.size rfl 43 (bva s) (0, 0) _ B1.out Try.underlying43 rfl HK.out ?_)
    | (refine wpList_build rfl 61 #[(2, .tmp 9)] rfl (v := .agg (ndC x)) ?hbld ?_; case hbld => (simp only [List.map_toArray, List.map_cons, List.map_nil]; show (Instr.build 61 #[(2, .agg (bva s))]).run Try.prog _ = _; exact HBS.out _))
    | (refine wpList_buildSlice rfl 22 61 1 #[(0, .tmp 10)] rfl (ndC x) ie _ Try.underlying22 hie hz0 (by rw [hz1]; omega) (by rw [hz1]; omega) (by rw [hz1]; simp only [List.map_toArray, List.map_cons, List.map_nil]; exact one_fill x HXS.out) ?_))
  have HW := Lib.hid (show Below w.heap.size w ((w.alloc (.cells (bva s) 43)).alloc (.cells (ndC x) 61)) from BB.out.alloc BB.out.size _)
  refine (from_nil _ _).mono ?_
  rintro e w2 ⟨rfl, rfl⟩
  go_wp2_with fail
  go_ret
  exact ⟨rfl, HW.out⟩
end Go.Proofs.Ytippbjpodnnhiaa.Kg
/-
  The laws' example, awake: a tree whose leaf 0 is punctured.
-/
namespace Go.Proofs.Ytippbjpodnnhiaa.Kg
open Go.RowKit
variable {ci : Ciph}
attribute [local go_sem ↓] Go.wp_at_zero Go.wp_at_succ
section
variable {w : World} {g : Nat} {l : List Nd} {F : Nat → Prop}
theorem theld_tr (h : Tr ci w g l F) : Calls Try.prog 21 #[.pointer (some ⟨g, 0, none⟩)] w (RetRowN 61 34 (nvs l) w) := by
  obtain ⟨A, n, c, ht, _⟩ := h; exact theld_any g A n c l w ht
theorem tcount_tr (h : Tr ci w g l F) : Calls Try.prog 24 #[.pointer (some ⟨g, 0, none⟩)] w (RetB (.int .i64 (countL l)) w) := by
  obtain ⟨A, n, c, ht, _⟩ := h; exact tcount_any g A n c l w ht
theorem tkey_tr (h : Tr ci w g l F) (m : Int) : Calls Try.prog 23 #[.pointer (some ⟨g, 0, none⟩), .int .u64 m] w (RetB (keyV ci (l.find? (inI · m)) m) w) := by
  obtain ⟨A, n, c, ht, _⟩ := h; exact tkey_any g A n c l m w ht
theorem thas_tr (h : Tr ci w g l F) (m : Int) : Calls Try.prog 42 #[.pointer (some ⟨g, 0, none⟩), .int .u64 m] w (RetB (.bool (hasI l m)) w) := by
  obtain ⟨A, n, c, ht, _⟩ := h; exact has_any g A n c l m w ht
theorem but_belowF {w' : World} {N : Nat} (hb : But F w w') (hF : ∀ k, F k → N ≤ k) (hN : N ≤ w.heap.size) : Below N w w' := hb.below (fun k hk h => by have := hF k h; omega) hN
end
end Go.Proofs.Ytippbjpodnnhiaa.Kg
/-
  An array of numbers is equal to itself, as Go compares.
-/
namespace Go.Proofs.Ytippbjpodnnhiaa
open Go.RowKit
section
variable {P : Program} (w : World)
theorem run_eqItems_self (d : Nat) {e : TypeId} {k : IntKind} (he : P.underlying e = some (.int k)) (xs : Array Value) (hx : ∀ i (h : i < xs.size), ∃ z, xs[i] = .int k z) :
    ∀ is : List Nat, (∀ i ∈ is, i < xs.size) → (Op.eqItems (d + 1) e 1 xs xs is).run P w = .ok true w
  | [], _ => by simp [Op.eqItems]
  | i :: is, h => by
    have hi := h i (by simp)
    obtain ⟨z, hz⟩ := hx i hi
    have hp : (part e xs (i * 1)).run P w = .ok (.int k z) w := run_part_plain w (by simp [Program.plainKey, he]) (by rw [Nat.mul_one, Array.getElem?_eq_getElem hi, hz])
    have hq : (Op.equalIn (d + 1) e (.int k z) (.int k z)).run P w = .ok true w := by rw [run_equalIn_int w d e k k z z he]; simp
    simp only [Op.eqItems, Sem.run_bind, hp, hq, Result.andThen_ok]
    simpa using run_eqItems_self d he xs hx is (fun j hj => h j (by simp [hj]))
theorem run_equal_self {t e n : Nat} {k : IntKind} {i : TypeInfo} (ht : P.underlying t = some (.array n e)) (he : P.underlying e = some (.int k)) (hi : P.info? e = some i) (hc : P.cellsOf e = 1) (xs : Array Value) (hn : xs.size = n)
    (hx : ∀ i (h : i < xs.size), ∃ z, xs[i] = .int k z) : (Op.equalIn 10000 t (.agg xs) (.agg xs)).run P w = .ok true w := by
  rw [show (10000 : Nat) = 9998 + 1 + 1 from rfl, run_equalIn_array w (9998 + 1) xs xs ht hi, hc, run_eqItems_self w 9998 he xs hx (List.range n) (fun j hj => by have := List.mem_range.1 hj; omega)]
end
end Go.Proofs.Ytippbjpodnnhiaa
/-
  Whether two arrays of bytes are the same, as Go compares.
-/
namespace Go.Proofs.Ytippbjpodnnhiaa
open Go.RowKit
section
variable {P : Program} (w : World)
theorem run_eqItems_bytes (d : Nat) {e : TypeId} (he : P.underlying e = some (.int .u8)) (a b : List UInt8) :
    ∀ is : List Nat, (∀ i ∈ is, i < a.length ∧ i < b.length) → (Op.eqItems (d + 1) e 1 (bva a) (bva b) is).run P w = .ok (is.all fun i => a.getD i 0 == b.getD i 0) w
  | [], _ => by simp [Op.eqItems]
  | i :: is, h => by
    obtain ⟨h1, h2⟩ := h i (by simp)
    have ih := run_eqItems_bytes d he a b is (fun j hj => h j (by simp [hj]))
    have hp : (part e (bva a) (i * 1)).run P w = .ok (.int .u8 ((a.getD i 0).toNat : Int)) w := run_part_plain w (by simp [Program.plainKey, he]) (by rw [Nat.mul_one]; exact bva_get h1)
    have hq : (part e (bva b) (i * 1)).run P w = .ok (.int .u8 ((b.getD i 0).toNat : Int)) w := run_part_plain w (by simp [Program.plainKey, he]) (by rw [Nat.mul_one]; exact bva_get h2)
    have hr : (Op.equalIn (d + 1) e (.int .u8 ((a.getD i 0).toNat : Int)) (.int .u8 ((b.getD i 0).toNat : Int))).run P w = .ok (a.getD i 0 == b.getD i 0) w := by
      rw [run_equalIn_int w d e .u8 .u8 _ _ he]
      congr 1
      by_cases hab : a.getD i 0 = b.getD i 0
      · rw [hab]; simp
      · have : ¬ (((a.getD i 0).toNat : Int) = ((b.getD i 0).toNat : Int)) := fun h => hab (UInt8.toNat_inj.1 (by omega))
        rw [beq_eq_false_iff_ne.2 hab]
        exact (by simpa using this)
    simp only [Op.eqItems, Sem.run_bind, hp, hq, hr, Result.andThen_ok]
    rw [List.all_cons]
    cases a.getD i 0 == b.getD i 0
    · simp
    · simpa using ih
theorem all_get (a b : List UInt8) (h : a.length = b.length) : ((List.range a.length).all fun i => a.getD i 0 == b.getD i 0) = decide (a = b) := by
  rw [Bool.eq_iff_iff, List.all_eq_true, decide_eq_true_iff]
  constructor
  · intro hh
    refine List.ext_getElem h fun i h1 h2 => ?_
    have := hh i (List.mem_range.2 h1)
    rw [beq_iff_eq, List.getD_eq_getElem?_getD, List.getD_eq_getElem?_getD, List.getElem?_eq_getElem h1, List.getElem?_eq_getElem h2] at this
    exact this
  · rintro rfl i _
    simp
theorem run_equal_bytes {t e n : Nat} {i : TypeInfo} (ht : P.underlying t = some (.array n e)) (he : P.underlying e = some (.int .u8)) (hi : P.info? e = some i) (hc : P.cellsOf e = 1) (a b : List UInt8) (ha : a.length = n) (hb : b.length = n) :
    (Op.equalIn 10000 t (.agg (bva a)) (.agg (bva b))).run P w = .ok (decide (a = b)) w := by
  rw [show (10000 : Nat) = 9998 + 1 + 1 from rfl, run_equalIn_array w (9998 + 1) (bva a) (bva b) ht hi, hc, run_eqItems_bytes w 9998 he a b (List.range n) (fun j hj => by have := List.mem_range.1 hj; omega), ← ha, all_get a b (by omega)]
end
end Go.Proofs.Ytippbjpodnnhiaa
/-
  How a []uint64 that came in is opened: its numbers, as a list.
-/
namespace Go.Proofs.Ytippbjpodnnhiaa
open Go.RowKit Go.ChangeShapes Go.WideShapes
/-- The cells of a row of 64-bit numbers without a sign. -/
def iv64 (l : List Int) : List Value := l.map (Value.int .u64)
theorem iv64_length (l : List Int) : (iv64 l).length = l.length := by simp [iv64]
theorem iv64_get {l : List Int} {k : Nat} (hk : k < l.length) : (iv64 l)[k]? = some (.int .u64 (l.getD k 0)) := by
  simp [iv64, hk]
theorem rd_u64 {B : Nat} {w : World} {A : Option Addr} {l : List Int} (h : Rd B w A (iv64 l)) {k : Nat} (hk : k < l.length) : ∃ ad, A = some ad ∧ ad.block < B ∧ w.cell? (ad.add k) = some (.int .u64 (l.getD k 0)) :=
  h k _ (iv64_get hk)
section
variable {H : Type} {enc : TypeId × Value → H} {P : Program} {w : World} {base : Nat} {spare : Nat → Bool} {held : Bool}
theorem open_u64s {t e : Nat} {a : Option Addr} {len cap : Nat} {d : DataW H} {ps : List MemPlace} (ht : P.underlying t = some (.slice e)) (he : P.underlying e = some (.int .u64)) (hc : P.cellsOf e = 1)
    (h : DataW.Trod enc P w base spare held t (.slice a len cap) d ps) : ∃ l : List Int, l.length = len ∧ len ≤ cap ∧ cap ≤ maxLen ∧ Rd w.heap.size w a (iv64 l) ∧ ∀ z ∈ l, 0 ≤ z ∧ z ≤ 18446744073709551615 := by
  obtain ⟨fuel, hf⟩ := h
  have hf' : DataW.trod enc P w base spare held fuel t [Value.slice a len cap] = some (d, ps) := hf
  rcases open_ints ht he hc hf' with ⟨hcs, _⟩ | ⟨a', len', cap', zs, hcs, _, hl, hm, hz, _, hcell, hwz⟩
  · simp only [List.cons.injEq, and_true] at hcs
    injection hcs with e1 e2 e3
    subst e1; subst e2; subst e3
    exact ⟨[], rfl, Nat.le_refl _, Nat.zero_le _, Rd.none, fun z hz => by simp at hz⟩
  · simp only [List.cons.injEq, and_true] at hcs
    injection hcs with e1 e2 e3
    subst e1; subst e2; subst e3
    have hlz : len ≤ zs.length := by rw [hz]; split <;> omega
    refine ⟨zs.take len, by rw [List.length_take]; omega, hl, hm, fun k u hu => ?_, fun z hz => bounds_u64 (hwz z (List.mem_of_mem_take hz))⟩
    have hk : k < len := by
      have := (List.getElem?_eq_some_iff.1 hu).1
      rw [iv64_length, List.length_take] at this; omega
    have hkz : k < zs.length := by omega
    have hg := hcell k hkz
    have hb := World.block_lt_of_cell? _ _ hg
    rw [add_block] at hb
    refine ⟨a', rfl, hb, ?_⟩
    have e2 : (iv64 (zs.take len))[k]? = some (.int .u64 zs[k]) := by simp [iv64, hk, hkz]
    have hd : zs.getD k 0 = zs[k] := by simp [List.getD, hkz]
    rw [hg, hd, ← hu, e2]
end
end Go.Proofs.Ytippbjpodnnhiaa
/-
  What the laws of the tree have in common: punctures one behind the other, a key with its sign.
-/
namespace Go.Proofs.Ytippbjpodnnhiaa.Kg
open Go.RowKit
variable {ci : Ciph}
attribute [local go_sem ↓] Go.wp_at_zero Go.wp_at_succ
/-- Punctures, one behind the other. -/
def punAll (ci : Ciph) (x : List Nd) (ms : List Int) : List Nd := ms.foldl (punL ci) x
theorem punAll_snoc (x : List Nd) (ms : List Int) {k : Nat} (h : k < ms.length) : punAll ci x (ms.take (k + 1)) = punL ci (punAll ci x (ms.take k)) (ms.getD k 0) := by
  rw [List.take_succ_eq_append_getElem h, punAll, List.foldl_append]
  simp [punAll, h]
theorem punAll_ok {x : List Nd} (hx : okS 0 x) : ∀ (ms : List Int), okS 0 (punAll ci x ms)
  | [] => hx
  | m :: ms => punAll_ok (punL_ok (ci := ci) m hx) ms
/-- A leaf's key, and whether there is one. -/
def keyK (ci : Ciph) (l : List Nd) (m : Int) : List UInt8 := match l.find? (inI · m) with | some x => (goL ci (17 - x.d).toNat x m).s | none => List.replicate 32 0
theorem keyV_form (l : List Nd) (m : Int) : keyV ci (l.find? (inI · m)) m = .tuple #[.agg (bva (keyK ci l m)), .bool (hasI l m)] := by
  unfold keyK
  cases h : l.find? (inI · m) with
  | none =>
    have : hasI l m = false := by rw [hasI, List.any_eq_false]; exact fun x hx => List.find?_eq_none.1 h x hx
    rw [this, keyV_none]
  | some x =>
    have : hasI l m = true := by rw [hasI, List.any_eq_true]; exact ⟨x, List.mem_of_find?_eq_some h, by simpa using List.find?_some h⟩
    rw [this, keyV_some]
theorem keyK_length {l : List Nd} (h : ∀ x ∈ l, x.s.length = 32) (m : Int) : (keyK ci l m).length = 32 := by
  unfold keyK
  split
  · rename_i x hx; exact goL_s (ci := ci) _ _ _ (h x (List.mem_of_find?_eq_some hx))
  · rfl
theorem eq_key (a b : List UInt8) (ha : a.length = 32) (hb : b.length = 32) (w : World) : (Op.equalIn 10000 43 (.agg (bva a)) (.agg (bva b))).run Try.prog w = .ok (decide (a = b)) w := by
  obtain ⟨i, hi⟩ := Option.isSome_iff_exists.1 (show (Try.prog.info? 5).isSome = true by kernel_rfl)
  exact run_equal_bytes w Try.underlying43 Try.underlying5 hi (by kernel_rfl) a b ha hb
end Go.Proofs.Ytippbjpodnnhiaa.Kg
/-
  What is held behind punctures, by definition: a node that has none of them, or what its halves have. No program.
-/
namespace Go.Proofs.Ytippbjpodnnhiaa.Kg
open Go.RowKit
variable {ci : Ciph}
/-- What is held of a node behind punctures. -/
def canL (ci : Ciph) : Nat → Nd → List Int → List Nd
  | 0, x, ms => if ms.any (inI x) then [] else [x]
  | f + 1, x, ms => if ms.any (inI x) then canL ci f (ndL ci x) ms ++ canL ci f (ndR ci x) ms else [x]
theorem inI_kids {x : Nd} {a : Int} (h : okH x) (hd : x.d < 17) : inI x a = (inI (ndL ci x) a || inI (ndR ci x) a) := by
  obtain ⟨h1, h2, h3⟩ := ndL_ok (ci := ci) h hd
  obtain ⟨h4, h5⟩ := ndR_ok (ci := ci) h hd
  have e1 : (ndL ci x).d = x.d + 1 := rfl
  have e2 : (ndR ci x).d = x.d + 1 := rfl
  have hp := (manyI_ok (d := x.d + 1) (by have := h.1; omega) (by omega)).2
  rw [Bool.eq_iff_iff, Bool.or_eq_true, inI_iff, inI_iff, inI_iff, h2, h5, e1, e2]
  omega
theorem inI_one {x : Nd} {a : Int} (h : okH x) (hd : inI (ndL ci x) a = true) (h17 : x.d < 17) : inI (ndR ci x) a = false := by
  obtain ⟨h1, h2, h3⟩ := ndL_ok (ci := ci) h h17
  obtain ⟨h4, h5⟩ := ndR_ok (ci := ci) h h17
  have e1 : (ndL ci x).d = x.d + 1 := rfl
  have e2 : (ndR ci x).d = x.d + 1 := rfl
  rw [inI_iff, h2, e1] at hd
  rw [inI_not, h5]; omega
theorem any_kids {x : Nd} {ms : List Int} (h : okH x) (hd : x.d < 17) : ms.any (inI x) = (ms.any (inI (ndL ci x)) || ms.any (inI (ndR ci x))) := by
  rw [Bool.eq_iff_iff, Bool.or_eq_true, List.any_eq_true, List.any_eq_true, List.any_eq_true]
  constructor
  · rintro ⟨m, hm, hi⟩
    rw [inI_kids (ci := ci) h hd, Bool.or_eq_true] at hi
    rcases hi with hi | hi
    · exact .inl ⟨m, hm, hi⟩
    · exact .inr ⟨m, hm, hi⟩
  · rintro (⟨m, hm, hi⟩ | ⟨m, hm, hi⟩)
    · exact ⟨m, hm, by rw [inI_kids (ci := ci) h hd, hi]; rfl⟩
    · exact ⟨m, hm, by rw [inI_kids (ci := ci) h hd, hi, Bool.or_true]⟩
theorem canL_none {f : Nat} {x : Nd} {ms : List Int} (h : ms.any (inI x) = false) : canL ci f x ms = [x] := by
  cases f <;> (unfold canL; rw [if_neg (by simp [h])])
theorem any_snoc (x : Nd) (ms : List Int) (m : Int) : (ms ++ [m]).any (inI x) = (ms.any (inI x) || inI x m) := by
  rw [List.any_append]; simp
theorem punL_one (f : Nat) (x : Nd) (m : Int) (hd : x.d = 17 - (f : Int)) : punL ci [x] m = woL ci f x m := by
  have : (17 - x.d).toNat = f := by omega
  rw [punL, List.flatMap_cons, this]; simp
theorem punL_can : ∀ (f : Nat) (x : Nd) (ms : List Int) (m : Int), okH x → x.d = 17 - (f : Int) → punL ci (canL ci f x ms) m = canL ci f x (ms ++ [m])
  | 0, x, ms, m, h, hd => by
    unfold canL
    rw [any_snoc]
    by_cases ha : ms.any (inI x) = true
    · rw [if_pos ha, ha, Bool.true_or, if_pos rfl]; rfl
    · rw [if_neg ha, punL_one (ci := ci) 0 x m hd, woL]
      have ha' : ms.any (inI x) = false := by simpa using ha
      rw [ha', Bool.false_or]
  | f + 1, x, ms, m, h, hd => by
    obtain ⟨h1, _⟩ := ndL_ok (ci := ci) h (by omega)
    obtain ⟨h2, _⟩ := ndR_ok (ci := ci) h (by omega)
    have il := punL_can f (ndL ci x) ms m h1 (by simp only [ndL]; omega)
    have ir := punL_can f (ndR ci x) ms m h2 (by simp only [ndR]; omega)
    unfold canL
    rw [any_snoc]
    by_cases ha : ms.any (inI x) = true
    · rw [if_pos ha, ha, Bool.true_or, if_pos rfl, punL_append, il, ir]
    · have ha' : ms.any (inI x) = false := by simpa using ha
      rw [if_neg ha, punL_one (ci := ci) (f + 1) x m hd, woL, ha', Bool.false_or]
      by_cases hi : inI x m = true
      · have hk := any_kids (ci := ci) (ms := ms) h (by omega)
        rw [ha'] at hk
        have hk' := hk.symm
        rw [Bool.or_eq_false_iff] at hk'
        rw [if_pos hi, if_pos hi, ← il, ← ir, canL_none (ci := ci) hk'.1, canL_none (ci := ci) hk'.2, punL_one (ci := ci) f (ndL ci x) m (by simp only [ndL]; omega), punL_one (ci := ci) f (ndR ci x) m (by simp only [ndR]; omega)]
      · rw [if_neg hi, if_neg hi]
theorem punAll_can (x : Nd) (hx : okH x) (f : Nat) (hd : x.d = 17 - (f : Int)) : ∀ (bs us : List Int), punAll ci (canL ci f x us) bs = canL ci f x (us ++ bs)
  | [], us => by simp [punAll]
  | b :: bs, us => by
    have h := punAll_can x hx f hd bs (us ++ [b])
    show punAll ci (punL ci (canL ci f x us) b) bs = _
    rw [punL_can (ci := ci) f x us b hx hd, h]
    simp
theorem any_congr {x : Nd} {ms ms' : List Int} (h : ∀ m, m ∈ ms ↔ m ∈ ms') : ms.any (inI x) = ms'.any (inI x) := by
  rw [Bool.eq_iff_iff, List.any_eq_true, List.any_eq_true]
  constructor
  · rintro ⟨m, hm, hi⟩; exact ⟨m, (h m).1 hm, hi⟩
  · rintro ⟨m, hm, hi⟩; exact ⟨m, (h m).2 hm, hi⟩
theorem can_congr : ∀ (f : Nat) (x : Nd) {ms ms' : List Int}, (∀ m, m ∈ ms ↔ m ∈ ms') → canL ci f x ms = canL ci f x ms'
  | 0, x, _, _, h => by unfold canL; rw [any_congr h]
  | f + 1, x, _, _, h => by unfold canL; rw [any_congr h, can_congr f _ h, can_congr f _ h]
/-- The root, behind punctures. -/
theorem punAll_root {s : List UInt8} (hs : s.length = 32) (ms : List Int) : punAll ci [⟨0, 0, s⟩] ms = canL ci 17 ⟨0, 0, s⟩ ms := by
  have h := punAll_can (ci := ci) ⟨0, 0, s⟩ (okS_root hs).1 17 rfl ms []
  rw [canL_none (ci := ci) (by rfl)] at h
  exact h
theorem can_mem_ok : ∀ (f : Nat) (x : Nd) (ms : List Int), okH x → x.d = 17 - (f : Int) → ∀ y ∈ canL ci f x ms, okH y
  | 0, x, ms, h, _, y, hy => by
    unfold canL at hy; split at hy
    · simp at hy
    · rw [List.mem_singleton] at hy; rw [hy]; exact h
  | f + 1, x, ms, h, hd, y, hy => by
    unfold canL at hy; split at hy
    · rcases List.mem_append.1 hy with hy | hy
      · exact can_mem_ok f _ ms (ndL_ok (ci := ci) h (by omega)).1 (by simp only [ndL]; omega) y hy
      · exact can_mem_ok f _ ms (ndR_ok (ci := ci) h (by omega)).1 (by simp only [ndR]; omega) y hy
    · rw [List.mem_singleton] at hy; rw [hy]; exact h
theorem leaf_one {x : Nd} {a m : Int} (hd : x.d = 17) (h1 : inI x a = true) (h2 : inI x m = true) : a = m := by
  have : manyI x.d = 1 := by rw [hd]; rfl
  rw [inI_iff, this] at h1 h2
  omega
theorem hasI_append (a b : List Nd) (m : Int) : hasI (a ++ b) m = (hasI a m || hasI b m) := by simp [hasI]
theorem hasI_single (x : Nd) (m : Int) : hasI [x] m = inI x m := by simp [hasI]
/-- Which leaves are left. -/
theorem hasI_can : ∀ (f : Nat) (x : Nd) (ms : List Int) (a : Int), okH x → x.d = 17 - (f : Int) → hasI (canL ci f x ms) a = (inI x a && !decide (a ∈ ms))
  | 0, x, ms, a, h, hd => by
    unfold canL
    by_cases ha : ms.any (inI x) = true
    · rw [if_pos ha]
      obtain ⟨m, hm, hi⟩ := List.any_eq_true.1 ha
      by_cases hx : inI x a = true
      · have := leaf_one (by omega) hx hi
        subst this
        rw [hx, decide_eq_true hm]; rfl
      · have hx' : inI x a = false := by simpa using hx
        rw [hx']; rfl
    · rw [if_neg ha, hasI_single]
      by_cases hx : inI x a = true
      · have hn : a ∉ ms := fun hm => ha (List.any_eq_true.2 ⟨a, hm, hx⟩)
        rw [hx, decide_eq_false hn]; rfl
      · have hx' : inI x a = false := by simpa using hx
        rw [hx']; rfl
  | f + 1, x, ms, a, h, hd => by
    unfold canL
    by_cases ha : ms.any (inI x) = true
    · rw [if_pos ha, hasI_append, hasI_can f _ ms a (ndL_ok (ci := ci) h (by omega)).1 (by simp only [ndL]; omega), hasI_can f _ ms a (ndR_ok (ci := ci) h (by omega)).1 (by simp only [ndR]; omega), inI_kids (ci := ci) h (by omega)]
      cases inI (ndL ci x) a <;> cases inI (ndR ci x) a <;> simp
    · rw [if_neg ha, hasI_single]
      by_cases hx : inI x a = true
      · have hn : a ∉ ms := fun hm => ha (List.any_eq_true.2 ⟨a, hm, hx⟩)
        rw [hx, decide_eq_false hn]; rfl
      · have hx' : inI x a = false := by simpa using hx
        rw [hx']; rfl
theorem step_left {x : Nd} {a : Int} (h : okH x) (hd : x.d < 17) (hi : inI (ndL ci x) a = true) : stepK ci x a = ndL ci x := by
  have hr := inI_one (ci := ci) h hi hd
  obtain ⟨h4, h5⟩ := ndR_ok (ci := ci) h hd
  obtain ⟨_, h2, _⟩ := ndL_ok (ci := ci) h hd
  have e1 : (ndL ci x).d = x.d + 1 := rfl
  rw [inI_iff, h2, e1] at hi
  have e : (ndR ci x).a = IntKind.u64.wrap (x.a + manyI (x.d + 1)) := rfl
  unfold stepK
  rw [← e, h5, if_neg (by omega)]
theorem step_right {x : Nd} {a : Int} (h : okH x) (hd : x.d < 17) (hi : inI (ndR ci x) a = true) : stepK ci x a = ndR ci x := by
  obtain ⟨h4, h5⟩ := ndR_ok (ci := ci) h hd
  rw [inI_iff, h5] at hi
  have e : (ndR ci x).a = IntKind.u64.wrap (x.a + manyI (x.d + 1)) := rfl
  unfold stepK
  rw [← e, h5, if_pos (by omega)]
/-- Each node that is held leads to the same keys. -/
theorem goL_can : ∀ (f : Nat) (x : Nd) (ms : List Int) (a : Int), okH x → x.d = 17 - (f : Int) → ∀ y ∈ canL ci f x ms, inI y a = true → inI x a = true ∧ goL ci (17 - y.d).toNat y a = goL ci f x a
  | 0, x, ms, a, h, hd, y, hy, hi => by
    unfold canL at hy; split at hy
    · simp at hy
    · rw [List.mem_singleton] at hy; subst hy
      have : (17 - y.d).toNat = 0 := by omega
      rw [this]; exact ⟨hi, rfl⟩
  | f + 1, x, ms, a, h, hd, y, hy, hi => by
    unfold canL at hy; split at hy
    · rcases List.mem_append.1 hy with hy | hy
      · obtain ⟨h1, h2⟩ := goL_can f _ ms a (ndL_ok (ci := ci) h (by omega)).1 (by simp only [ndL]; omega) y hy hi
        exact ⟨by rw [inI_kids (ci := ci) h (by omega), h1]; rfl, by rw [h2, goL, step_left (ci := ci) h (by omega) h1]⟩
      · obtain ⟨h1, h2⟩ := goL_can f _ ms a (ndR_ok (ci := ci) h (by omega)).1 (by simp only [ndR]; omega) y hy hi
        exact ⟨by rw [inI_kids (ci := ci) h (by omega), h1, Bool.or_true], by rw [h2, goL, step_right (ci := ci) h (by omega) h1]⟩
    · rw [List.mem_singleton] at hy; subst hy
      have : (17 - y.d).toNat = f + 1 := by omega
      rw [this]; exact ⟨hi, rfl⟩
/-- A leaf's key behind punctures: as it was, if it is left. -/
theorem keyK_can {f : Nat} {x : Nd} (ms : List Int) (a : Int) (h : okH x) (hd : x.d = 17 - (f : Int)) : keyK ci (canL ci f x ms) a = if hasI (canL ci f x ms) a = true then (goL ci f x a).s else List.replicate 32 0 := by
  unfold keyK
  cases hf : (canL ci f x ms).find? (inI · a) with
  | none =>
    have : hasI (canL ci f x ms) a = false := by rw [hasI, List.any_eq_false]; exact fun y hy => List.find?_eq_none.1 hf y hy
    rw [this]; rfl
  | some y =>
    have hm := List.mem_of_find?_eq_some hf
    have hi : inI y a = true := by simpa using List.find?_some hf
    have : hasI (canL ci f x ms) a = true := by rw [hasI, List.any_eq_true]; exact ⟨y, hm, hi⟩
    rw [if_pos this]
    show (goL ci (17 - y.d).toNat y a).s = _
    rw [(goL_can (ci := ci) f x ms a h hd y hm hi).2]
/-- How many of them a node has. -/
def nIn (x : Nd) (ms : List Int) : Nat := (ms.filter (inI x)).length
theorem nIn_kids {x : Nd} (ms : List Int) (h : okH x) (hd : x.d < 17) : nIn x ms = nIn (ndL ci x) ms + nIn (ndR ci x) ms := by
  unfold nIn
  induction ms with
  | nil => rfl
  | cons m ms ih =>
    rw [List.filter_cons, List.filter_cons, List.filter_cons]
    have hk := inI_kids (ci := ci) (a := m) h hd
    by_cases hl : inI (ndL ci x) m = true
    · have hr := inI_one (ci := ci) h hl hd
      rw [hl, Bool.true_or] at hk
      rw [if_pos hk, if_pos hl, if_neg (by simp [hr]), List.length_cons, List.length_cons, ih]; omega
    · have hl' : inI (ndL ci x) m = false := by simpa using hl
      rw [hl', Bool.false_or] at hk
      by_cases hr : inI (ndR ci x) m = true
      · rw [if_pos (by rw [hk]; exact hr), if_neg hl, if_pos hr, List.length_cons, List.length_cons, ih]; omega
      · rw [if_neg (by rw [hk]; exact hr), if_neg hl, if_neg hr, ih]
theorem nIn_zero {x : Nd} {ms : List Int} (h : ¬ ms.any (inI x) = true) : nIn x ms = 0 := by
  unfold nIn
  rw [List.length_eq_zero_iff, List.filter_eq_nil_iff]
  intro m hm hi
  exact h (List.any_eq_true.2 ⟨m, hm, hi⟩)
theorem nIn_pos {x : Nd} {ms : List Int} (h : ms.any (inI x) = true) : 1 ≤ nIn x ms := by
  unfold nIn
  obtain ⟨m, hm, hi⟩ := List.any_eq_true.1 h
  exact List.length_pos_of_mem (List.mem_filter.2 ⟨hm, hi⟩)
theorem nIn_leaf {x : Nd} (hd : x.d = 17) : ∀ {ms : List Int}, ms.Nodup → nIn x ms ≤ 1
  | [], _ => by simp [nIn]
  | m :: ms, hn => by
    rw [List.nodup_cons] at hn
    have ih := nIn_leaf hd hn.2
    unfold nIn at ih ⊢
    rw [List.filter_cons]
    by_cases hi : inI x m = true
    · have h0 : nIn x ms = 0 := nIn_zero (fun h => by
        obtain ⟨m', hm', hi'⟩ := List.any_eq_true.1 h
        have := leaf_one hd hi hi'
        subst this
        exact hn.1 hm')
      unfold nIn at h0
      rw [if_pos hi, List.length_cons, h0]; omega
    · rw [if_neg hi]; exact ih
/-- How many leaves are left. -/
theorem count_can : ∀ (f : Nat) (x : Nd) (ms : List Int), okH x → x.d = 17 - (f : Int) → ms.Nodup → countL (canL ci f x ms) = manyI x.d - (nIn x ms : Int)
  | 0, x, ms, h, hd, hn => by
    have hm : manyI x.d = 1 := by rw [show x.d = 17 by omega]; rfl
    unfold canL
    by_cases ha : ms.any (inI x) = true
    · have h1 := nIn_pos ha
      have h2 := nIn_leaf (x := x) (by omega) hn
      rw [if_pos ha, hm, countL]; omega
    · rw [if_neg ha, nIn_zero ha, countL, countL]; omega
  | f + 1, x, ms, h, hd, hn => by
    unfold canL
    by_cases ha : ms.any (inI x) = true
    · obtain ⟨h1, _, h3⟩ := ndL_ok (ci := ci) h (by omega)
      obtain ⟨h2, _⟩ := ndR_ok (ci := ci) h (by omega)
      have e1 : (ndL ci x).d = x.d + 1 := rfl
      have e2 : (ndR ci x).d = x.d + 1 := rfl
      have il := count_can f _ ms h1 (by simp only [ndL]; omega) hn
      have ir := count_can f _ ms h2 (by simp only [ndR]; omega) hn
      rw [if_pos ha, countL_append, il, ir, nIn_kids (ci := ci) ms h (by omega), e1, e2]; omega
    · rw [if_neg ha, nIn_zero ha, countL, countL]; omega
theorem length_can : ∀ (f : Nat) (x : Nd) (ms : List Int), okH x → x.d = 17 - (f : Int) → (canL ci f x ms).length ≤ nIn x ms * f + 1
  | 0, x, ms, h, hd => by unfold canL; split <;> simp
  | f + 1, x, ms, h, hd => by
    unfold canL
    by_cases ha : ms.any (inI x) = true
    · have il := length_can f _ ms (ndL_ok (ci := ci) h (by omega)).1 (by simp only [ndL]; omega)
      have ir := length_can f _ ms (ndR_ok (ci := ci) h (by omega)).1 (by simp only [ndR]; omega)
      have hp := nIn_pos ha
      rw [if_pos ha, List.length_append]
      rw [nIn_kids (ci := ci) ms h (by omega)] at hp ⊢
      rw [Nat.mul_succ, Nat.add_mul]; omega
    · rw [if_neg ha]; simp
/-- One tree is punctured: what becomes of it, and of another one beside it. -/
theorem pun_one {w w' : World} {g N : Nat} {l : List Nd} {m : Int} {F : Nat → Prop} (h : ∃ F', Tr ci w' g (punL ci l m) F' ∧ But F w w' ∧ ∀ k, F' k → F k ∨ w.heap.size ≤ k) (hF : ∀ q, F q → N ≤ q) (hN : N ≤ w.heap.size) :
    ∃ F', Tr ci w' g (punL ci l m) F' ∧ (∀ q, F' q → N ≤ q) ∧ Below N w w' := by
  obtain ⟨F', h1, h2, h3⟩ := h
  exact ⟨F', h1, fun q hq => by rcases h3 q hq with h | h; exact hF q h; omega, but_belowF h2 hF hN⟩
theorem pun_two {w w' : World} {g g2 N : Nat} {l l2 : List Nd} {m : Int} {F G : Nat → Prop} (h : ∃ F', Tr ci w' g (punL ci l m) F' ∧ But F w w' ∧ ∀ k, F' k → F k ∨ w.heap.size ≤ k) (hB : Tr ci w g2 l2 G) (hd : ∀ q, F q → G q → False) (hF : ∀ q, F q → N ≤ q) (hN : N ≤ w.heap.size) :
    ∃ F', Tr ci w' g (punL ci l m) F' ∧ Tr ci w' g2 l2 G ∧ (∀ q, F' q → G q → False) ∧ (∀ q, F' q → N ≤ q) ∧ Below N w w' := by
  obtain ⟨F', h1, h2, h3⟩ := h
  refine ⟨F', h1, hB.but h2 (fun q hG hFq => hd q hFq hG), fun q hq hG => ?_, fun q hq => by rcases h3 q hq with h | h; exact hF q h; omega, but_belowF h2 hF hN⟩
  rcases h3 q hq with h | h
  · exact hd q h hG
  · have := hB.lt q hG; omega
end Go.Proofs.Ytippbjpodnnhiaa.Kg
/-
  The whole-laws' example, awake: the real cipher's tree, its first leaf punctured.
-/
namespace Go.Proofs.Ytippbjpodnnhiaa.Kc
open Go.RowKit Kg
attribute [local go_sem ↓] Go.wp_at_zero Go.wp_at_succ
theorem wpList_execg {P : Program} {w w' : World} {ops : Array Oper} {rest : List Oper} {o : Oper} {a : Act} {Q : Exit → Act → World → Prop} {v : Value} (hgd : Region.wanted o (yielded ops a.tmps) = true)
    (h : (execOp a.eval o).run P w = .ok (.value v) w') (hk : wpList P ops Q rest (a.put o.dst v) w') : wpList P ops Q (o :: rest) a w := by
  unfold wpList
  rw [if_pos hgd]
  refine .inl ?_
  unfold Oper.wp
  rw [h]
  exact hk
def oneT : List UInt8 := 1 :: List.replicate 31 0
set_option maxRecDepth 100000 in
set_option maxHeartbeats 1600000 in
theorem topAwake_any (w : World) : Calls Try.prog 25 #[] w (RetB (.bool true) w) := by
  obtain ⟨s, hs⟩ : ∃ s, s = oneT := ⟨_, rfl⟩
  have HS : Hid (s.length = 32) := by show _ = _; rw [hs]; rfl
  have HBK := Lib.hid (show ∀ W, (Instr.build 43 #[(0, .int .u8 1)]).run Try.prog W = .ok (.agg (bva s)) W from fun _ => by rw [hs]; kernel_rfl)
  have HBR := Lib.hid (show ∀ W, (Instr.build 68 #[]).run Try.prog W = .ok (.agg #[]) W from fun _ => by kernel_rfl)
  have hr := (okS_root HS.out).1
  have hm0 : manyI 0 = 131072 := by decide
  have i0 : inI ⟨0, 0, s⟩ 0 = true := by rw [inI_iff]; refine ⟨by show (0 : Int) ≤ 0; omega, ?_⟩; show (0 : Int) < 0 + manyI 0; omega
  have i1 : inI ⟨0, 0, s⟩ 1 = true := by rw [inI_iff]; refine ⟨by show (0 : Int) ≤ 1; omega, ?_⟩; show (1 : Int) < 0 + manyI 0; omega
  obtain ⟨X, hX⟩ : ∃ X, X = canL realC 17 ⟨0, 0, s⟩ [0] := ⟨_, rfl⟩
  have hp : punL realC [⟨0, 0, s⟩] 0 = X := by rw [hX, ← punAll_root (ci := realC) HS.out, punAll, List.foldl_cons, List.foldl_nil]
  have g0 : hasI X 0 = false := by rw [hX, hasI_can 17 _ _ _ hr rfl]; simp
  have g1 : hasI X 1 = true := by rw [hX, hasI_can 17 _ _ _ hr rfl, i1]; decide
  have HI0 := Lib.hid (show hasI [⟨0, 0, s⟩] 0 = true by rw [hasI_single]; exact i0)
  have HP := Lib.hid hp
  have G0 := Lib.hid g0
  have G1 := Lib.hid g1
  clear hs hr hm0 i0 i1 hX hp g0 g1
  go_enter Try.func25, Try.ntmps25
  go_wp2_with (first
    | (refine wpList_build rfl 68 #[] rfl (v := .agg #[]) ?hbld ?_; case hbld => exact HBR.out _)
    | (refine wpList_build rfl 43 #[(0, .const (.int .u8 1))] rfl (v := .agg (bva s)) ?hbld ?_; case hbld => (simp only [List.map_toArray, List.map_cons, List.map_nil]; exact HBK.out _)))
  refine (new_any (ci := realC) s HS.out _).mono ?_
  rintro e w1 ⟨⟨g, F, rfl, ht, hF⟩, bw⟩
  have HT := Lib.hid ht
  have HF := Lib.hid hF
  have HB := Lib.hid bw
  clear ht hF bw
  go_wp2_with fail
  refine (thas_tr HT.out 0).mono ?_
  rintro e w2 ⟨rfl, bw⟩
  rw [HI0.out]
  have HT2 := Lib.hid (HT.out.below bw)
  have HB2 := Lib.hid (HB.out.trans (bw.mono HB.out.size))
  clear bw HT HB
  go_wp2_with fail
  refine (tpuncture_any g _ F 0 _ HT2.out).mono ?_
  rintro e w3 ⟨rfl, hq⟩
  obtain ⟨F3, ht, hF3, hb⟩ := pun_one hq HF.out HB2.out.size
  rw [HP.out] at ht
  have HT3 := Lib.hid ht
  have HB3 := Lib.hid (HB2.out.trans hb)
  clear hq ht hF3 hb HT2 HB2
  go_wp2_with fail
  refine (thas_tr HT3.out 0).mono ?_
  rintro e w4 ⟨rfl, bw⟩
  rw [G0.out]
  have HT4 := Lib.hid (HT3.out.below bw)
  have HB4 := Lib.hid (HB3.out.trans (bw.mono HB3.out.size))
  clear bw HT3 HB3
  go_wp2_with fail
  refine (thas_tr HT4.out 1).mono ?_
  rintro e w5 ⟨rfl, bw⟩
  rw [G1.out]
  have HB5 := Lib.hid (HB4.out.trans (bw.mono HB4.out.size))
  clear bw HT4 HB4
  go_wp2_with fail
  go_ret
  exact ⟨rfl, HB5.out⟩
end Go.Proofs.Ytippbjpodnnhiaa.Kc
/-
  How arguments that came in are opened: a []byte, a slice of them, and so on, as what my words say of them.
-/
namespace Go.Proofs.Ytippbjpodnnhiaa
open Go.RowKit Go.ChangeShapes Go.WideShapes

/-- The byte of a number. -/
def byteOf (n : Int) : UInt8 := UInt8.ofNat n.toNat
theorem byteOf_val {n : Int} (h : (Lit.int .u8 n).wf = true) : ((byteOf n).toNat : Int) = n := by
  have hb := bounds_u8 h
  unfold byteOf
  rw [UInt8.toNat_ofNat']
  omega

section
variable {H : Type} {enc : TypeId × Value → H} {P : Program} {w : World} {base : Nat} {spare : Nat → Bool} {held : Bool}

theorem isB_of_trod {t e fuel : Nat} {v : Value} {x : DataW H × List MemPlace} (ht : P.underlying t = some (.slice e)) (he : P.underlying e = some (.int .u8)) (hc : P.cellsOf e = 1)
    (h : DataW.trod enc P w base spare held fuel t [v] = some x) : ∃ l, IsB w.heap.size w v l := by
  rcases open_ints ht he hc h with ⟨hcs, _⟩ | ⟨a, len, cap, zs, hcs, _, hl, hm, hz, _, hcell, hwz⟩
  · simp only [List.cons.injEq, and_true] at hcs
    subst hcs
    exact ⟨[], none, 0, rfl, Nat.le_refl _, Nat.zero_le _, Rd.none⟩
  · simp only [List.cons.injEq, and_true] at hcs
    subst hcs
    have hlz : len ≤ zs.length := by rw [hz]; split <;> omega
    have hlen : ((zs.take len).map byteOf).length = len := by simp; omega
    refine ⟨(zs.take len).map byteOf, some a, cap, by rw [hlen], by omega, hm, fun k u hu => ?_⟩
    have hk : k < len := by
      have := (List.getElem?_eq_some_iff.1 hu).1
      rw [bv_length, hlen] at this
      exact this
    have hkz : k < zs.length := by omega
    have hg := hcell k hkz
    have hd : zs.getD k 0 = zs[k] := by simp [List.getD, hkz]
    have hw := hwz _ (List.getElem_mem hkz)
    have hb := World.block_lt_of_cell? _ _ hg
    rw [add_block] at hb
    refine ⟨a, rfl, hb, ?_⟩
    rw [hg, hd]
    have e2 : (bv ((zs.take len).map byteOf))[k]? = some (.int .u8 zs[k]) := by
      rw [bv_get (by rw [hlen]; exact hk)]
      simp only [List.getElem_map, List.getElem_take]
      rw [byteOf_val hw]
    rw [← hu, e2]

theorem isL_of_trod {α : Type} {R : Value → α → Prop} {t e fuel : Nat} {v : Value} {x : DataW H × List MemPlace} (ht : P.underlying t = some (.slice e)) (hc : P.cellsOf e = 1)
    (each : ∀ (n : Nat) (u : Value) (y : DataW H × List MemPlace), DataW.trod enc P w base spare held n e [u] = some y → ∃ l, R u l)
    (h : DataW.trod enc P w base spare held fuel t [v] = some x) : ∃ ls, IsL w.heap.size w R v ls := by
  rcases Go.Deep.open_slice1 ht hc h with ⟨hcs, _⟩ | ⟨a, len, cap, m, n, V, D, Pl, hcs, _, hl, hm, hmm, _, hx⟩
  · simp only [List.cons.injEq, and_true] at hcs
    subst hcs
    exact ⟨[], none, 0, rfl, Nat.le_refl _, Nat.zero_le _, RdL.none⟩
  · simp only [List.cons.injEq, and_true] at hcs
    subst hcs
    have hlm : len ≤ m := by rw [hmm]; split <;> omega
    have hall : ∀ j, j ≤ len → ∃ ls : List α, ls.length = j ∧ ∀ (k : Nat) (l : α), ls[k]? = some l → R (V k) l := by
      intro j
      induction j with
      | zero => exact fun _ => ⟨[], rfl, fun k l hk => by simp at hk⟩
      | succ j ih =>
        intro hj
        obtain ⟨ls, hls, hR⟩ := ih (by omega)
        obtain ⟨l, hl'⟩ := each n (V j) _ (hx j (by omega)).2
        refine ⟨ls ++ [l], by simp [hls], fun k l' hk => ?_⟩
        rcases Nat.lt_trichotomy k j with hlt | rfl | hgt
        · rw [List.getElem?_append_left (by omega)] at hk
          exact hR k l' hk
        · rw [List.getElem?_append_right (by omega), hls, Nat.sub_self] at hk
          injection hk with hk
          subst hk
          exact hl'
        · rw [List.getElem?_eq_none (by simp; omega)] at hk
          cases hk
    obtain ⟨ls, hls, hR⟩ := hall len (Nat.le_refl _)
    refine ⟨ls, some a, cap, by rw [hls], by omega, hm, (List.range len).map V, by simp [hls], fun k u hu => ?_, fun k u l hu hl' => ?_⟩
    · have hk : k < len := by have := (List.getElem?_eq_some_iff.1 hu).1; simpa using this
      have hg := (hx k (by omega)).1
      have hb := World.block_lt_of_cell? _ _ hg
      rw [add_block] at hb
      have e2 : ((List.range len).map V)[k]? = some (V k) := by simp [hk]
      exact ⟨a, rfl, hb, by rw [hg, ← hu, e2]⟩
    · have hk : k < len := by have := (List.getElem?_eq_some_iff.1 hu).1; simpa using this
      have e2 : ((List.range len).map V)[k]? = some (V k) := by simp [hk]
      rw [e2] at hu
      injection hu with hu
      subst hu
      exact hR k l hl'

/-- A []byte that came in. -/
theorem open_bytes {t e : Nat} {a : Option Addr} {len cap : Nat} {d : DataW H} {ps : List MemPlace} (ht : P.underlying t = some (.slice e)) (he : P.underlying e = some (.int .u8)) (hc : P.cellsOf e = 1)
    (h : DataW.Trod enc P w base spare held t (.slice a len cap) d ps) : ∃ l : List UInt8, l.length = len ∧ len ≤ cap ∧ cap ≤ maxLen ∧ Rd w.heap.size w a (bv l) := by
  obtain ⟨fuel, hf⟩ := h
  obtain ⟨l, A, c, hv, h1, h2, h3⟩ := isB_of_trod ht he hc hf
  injection hv with e1 e2 e3
  subst e1; subst e2; subst e3
  exact ⟨l, rfl, h1, h2, h3⟩
/-- A [][]byte that came in. -/
theorem open_rows {t s e : Nat} {a : Option Addr} {len cap : Nat} {d : DataW H} {ps : List MemPlace} (ht : P.underlying t = some (.slice s)) (hs : P.underlying s = some (.slice e)) (he : P.underlying e = some (.int .u8))
    (hcs : P.cellsOf s = 1) (hc : P.cellsOf e = 1)
    (h : DataW.Trod enc P w base spare held t (.slice a len cap) d ps) : ∃ ls : List (List UInt8), ls.length = len ∧ len ≤ cap ∧ cap ≤ maxLen ∧ RdB w.heap.size w a ls := by
  obtain ⟨fuel, hf⟩ := h
  obtain ⟨ls, A, c, hv, h1, h2, h3⟩ := isL_of_trod (R := IsB w.heap.size w) ht hcs (fun _ _ _ hy => isB_of_trod hs he hc hy) hf
  injection hv with e1 e2 e3
  subst e1; subst e2; subst e3
  exact ⟨ls, rfl, h1, h2, h3⟩
/-- A [][][]byte that came in. -/
theorem open_rows3 {t r s e : Nat} {a : Option Addr} {len cap : Nat} {d : DataW H} {ps : List MemPlace} (ht : P.underlying t = some (.slice r)) (hr : P.underlying r = some (.slice s)) (hs : P.underlying s = some (.slice e)) (he : P.underlying e = some (.int .u8))
    (hcr : P.cellsOf r = 1) (hcs : P.cellsOf s = 1) (hc : P.cellsOf e = 1)
    (h : DataW.Trod enc P w base spare held t (.slice a len cap) d ps) : ∃ ls : List (List (List UInt8)), ls.length = len ∧ len ≤ cap ∧ cap ≤ maxLen ∧ RdL w.heap.size w (IsL w.heap.size w (IsB w.heap.size w)) a ls := by
  obtain ⟨fuel, hf⟩ := h
  obtain ⟨ls, A, c, hv, h1, h2, h3⟩ := isL_of_trod (R := IsL w.heap.size w (IsB w.heap.size w)) ht hcr (fun _ _ _ hy => isL_of_trod hr hcs (fun _ _ _ hz => isB_of_trod hs he hc hz) hy) hf
  injection hv with e1 e2 e3
  subst e1; subst e2; subst e3
  exact ⟨ls, rfl, h1, h2, h3⟩
end

end Go.Proofs.Ytippbjpodnnhiaa
/-
  How an array of numbers that came in by value is opened: its numbers, as a list.
-/
namespace Go.Proofs.Ytippbjpodnnhiaa
open Go.RowKit Go.ChangeShapes Go.WideShapes

section
variable {H : Type} {enc : TypeId × Value → H} {P : Program} {w : World} {r : Reach} {b0 base : Nat} {spare : Nat → Bool} {held : Bool}

theorem open_arr {t e n : Nat} {k : IntKind} {v : Value} {d : DataW H} {ps : List MemPlace} (ht : P.underlying t = some (.array n e)) (he : P.underlying e = some (.int k)) (hc : P.cellsOf e = 1) (hn : P.cellsOf t = n)
    (hval : Value.okWide P w r b0 t v) (h : DataW.Trod enc P w base spare held t v d ps) :
    ∃ zs : List Int, zs.length = n ∧ v = .agg (zs.map (Value.int k)).toArray ∧ ∀ z ∈ zs, (Lit.int k z).wf = true := by
  obtain ⟨cs, rfl, hsz⟩ : ∃ cs, v = .agg cs ∧ cs.size = n := by
    have h1 := hval
    simp only [Value.okWide, ht] at h1
    obtain ⟨cs, e1, e2, _⟩ := h1
    exact ⟨cs, e1, by rw [e2, hn]⟩
  obtain ⟨fuel, hf⟩ := h
  obtain ⟨xs, m, _, _, hl, hx, hel⟩ := DataW.trod_array ht hf
  have each : ∀ i (hi : i < cs.size), ∃ z, cs[i] = .int k z ∧ (Lit.int k z).wf = true := by
    intro i hi
    have h1 := hel i (by omega)
    have hxi : i < xs.length := by omega
    rw [List.getElem?_eq_getElem hxi, hc, Nat.mul_one] at h1
    obtain ⟨z, e1, _, hw⟩ := DataW.trod_int he h1
    have e2 : ((Value.agg cs).cells.toList.drop i).take 1 = [cs[i]] := by
      show (cs.toList.drop i).take 1 = [cs[i]]
      rw [List.drop_eq_getElem_cons (by simpa using hi)]
      simp
    rw [e2] at e1
    injection e1 with e1
    exact ⟨z, e1, hw⟩
  refine ⟨cs.toList.map (fun v => match v with | .int _ z => z | _ => 0), by simpa using hsz, ?_, ?_⟩
  · congr 1
    apply Array.ext
    · simp
    · intro i h1 h2
      obtain ⟨z, hz, _⟩ := each i h1
      simp [hz]
  · intro z hz
    simp only [List.mem_map] at hz
    obtain ⟨v, hv, rfl⟩ := hz
    obtain ⟨i, hi, rfl⟩ := List.getElem_of_mem hv
    obtain ⟨z, hz, hw⟩ := each i (by simpa using hi)
    have : cs.toList[i] = .int k z := by simpa using hz
    rw [this]
    exact hw

theorem open_u32s {t e n : Nat} {v : Value} {d : DataW H} {ps : List MemPlace} (ht : P.underlying t = some (.array n e)) (he : P.underlying e = some (.int .u32)) (hc : P.cellsOf e = 1) (hn : P.cellsOf t = n)
    (hval : Value.okWide P w r b0 t v) (h : DataW.Trod enc P w base spare held t v d ps) : ∃ s : List UInt32, s.length = n ∧ v = .agg (uv s) := by
  obtain ⟨zs, hl, rfl, hw⟩ := open_arr ht he hc hn hval h
  refine ⟨zs.map fun z => UInt32.ofNat z.toNat, by simpa using hl, ?_⟩
  unfold uv
  rw [List.map_map]
  congr 2
  apply List.map_congr_left
  intro z hz
  have hb := bounds_u32 (hw z hz)
  simp only [Function.comp]
  exact int_eq (by rw [UInt32.toNat_ofNat']; omega)
theorem open_u8s {t e n : Nat} {v : Value} {d : DataW H} {ps : List MemPlace} (ht : P.underlying t = some (.array n e)) (he : P.underlying e = some (.int .u8)) (hc : P.cellsOf e = 1) (hn : P.cellsOf t = n)
    (hval : Value.okWide P w r b0 t v) (h : DataW.Trod enc P w base spare held t v d ps) : ∃ l : List UInt8, l.length = n ∧ v = .agg (bva l) := by
  obtain ⟨zs, hl, rfl, hw⟩ := open_arr ht he hc hn hval h
  refine ⟨zs.map fun z => UInt8.ofNat z.toNat, by simpa using hl, ?_⟩
  unfold bva bv
  rw [List.map_map]
  congr 2
  apply List.map_congr_left
  intro z hz
  have hb := bounds_u8 (hw z hz)
  simp only [Function.comp]
  exact int_eq (by rw [UInt8.toNat_ofNat']; omega)
end
end Go.Proofs.Ytippbjpodnnhiaa
