/-
  The contracts of From and New: a tree that holds these nodes, if they may be held.
-/
import Derived.Test.YtkfcllcdkgnfbaaKtCopy
import Derived.Test.YtkfcllcdkgnfbaaKtIsN
import Derived.Test.YtkfcllcdkgnfbaaKtPlain
namespace Go.Proofs.Ytkfcllcdkgnfbaa.Kt
open Go.RowKit
attribute [local go_sem ↓] Go.wp_at_zero Go.wp_at_succ
/-- The leaf behind the last one. -/
def endL : Int → List Nd → Int
  | e, [] => e
  | _, x :: l => endL (x.a + manyI x.d) l
theorem endL_snoc : ∀ (e : Int) (a : List Nd) (x : Nd), endL e (a ++ [x]) = x.a + manyI x.d
  | _, [], _ => rfl
  | _, y :: a, x => endL_snoc (y.a + manyI y.d) a x
theorem okS_snoc : ∀ (e : Int) (a : List Nd) (x : Nd), okS e (a ++ [x]) ↔ okS e a ∧ okH x ∧ endL e a ≤ x.a
  | e, [], x => by simp [okS, endL]
  | e, y :: a, x => by
    have h := okS_snoc (y.a + manyI y.d) a x
    rw [List.cons_append, okS, okS, endL, h]
    constructor
    · rintro ⟨h1, h2, h3, h4⟩; exact ⟨⟨h1, h2, h3⟩, h4⟩
    · rintro ⟨⟨h1, h2, h3⟩, h4⟩; exact ⟨h1, h2, h3, h4⟩
theorem endL_bd : ∀ {e : Int} {a : List Nd}, okS e a → e ≤ 131072 → e ≤ endL e a ∧ endL e a ≤ 131072
  | e, [], _, h => ⟨Int.le_refl _, h⟩
  | e, x :: a, h, he => by
    have := endL_bd h.2.2 h.1.2.2.2.2.1
    have hm := h.1.many
    have := h.2.1
    rw [endL]; omega
theorem okS_pre {e : Int} {l : List Nd} (h : okS e l) (k : Nat) : okS e (l.take k) := by
  have e1 := List.take_append_drop k l
  rw [← e1] at h
  exact (okS_split h).1
theorem okS_not_next {l : List Nd} {k : Nat} (hk : k < l.length) (h : ¬ (okH l[k] ∧ endL 0 (l.take k) ≤ (l[k]).a)) : ¬ okS 0 l := fun hl => by
  have h1 := okS_pre hl (k + 1)
  rw [List.take_succ_eq_append_getElem hk, okS_snoc] at h1
  exact h h1.2
/-- What From answers. -/
def RetFrom (l : List Nd) (w : World) (e : Ending) (w' : World) : Prop :=
  ((okS 0 l ∧ ∃ g F, e = .returned (.tuple #[.pointer (some ⟨g, 0, none⟩), .int .i64 0]) ∧ Tr w' g l F ∧ ∀ k, F k → w.heap.size ≤ k) ∨
   (¬ okS 0 l ∧ e = .returned (.tuple #[.pointer none, .int .i64 3]))) ∧ Below w.heap.size w w'
theorem tr_new {w W : World} {A : Option Addr} {n c : Nat} {l : List Nd} {base : Nat} (ho : w.ownsRow base 48 34 (.slice A n c) n (nvs l)) (hl : l.length = n) (hok : okS 0 l) (hbw : Below base W w) (hbase : base = W.heap.size) :
    ∃ F, Tr (w.alloc (.cells #[little, .slice A n c] 67)) w.heap.size l F ∧ ∀ k, F k → base ≤ k := by
  have hlo := own_loN ho
  refine ⟨fun k => k = w.heap.size ∨ (Value.slice A n c).ownBlock = some k, ⟨A, n, c, ⟨heap_alloc_new _ _, own_moreN (own_belowN ho ((Below.refl _ _).alloc (Nat.le_refl _) _)) (Nat.zero_le _), hl, hok, fun h => by have := (hlo _ h).2; omega⟩, .inl rfl, fun k hk => .inr hk, fun k hk => ?_⟩, fun k hk => ?_⟩
  · rcases hk with rfl | hk
    · simp
    · have := (hlo k hk).2; simp; omega
  · rcases hk with rfl | hk
    · rw [hbase]; exact hbw.size
    · exact (hlo k hk).1
set_option maxRecDepth 100000 in
set_option maxHeartbeats 1600000 in
theorem from_any {B : Nat} (A : Option Addr) (n c : Nat) (l : List Nd) (w : World) (hl : l.length = n) (h3 : ∀ x ∈ l, x.s.length = 32) (ha : ∀ x ∈ l, 0 ≤ x.a) (hB : B ≤ w.heap.size) (hr : Rd B w A (nvs l)) (hn : n ≤ 1000000) :
    Calls Try.prog 24 #[little, .slice A n c] w (RetFrom l w) := by
  obtain ⟨cz, hcz⟩ : ∃ cz, cz = ndC zeroNd := ⟨_, rfl⟩
  have hzh : ∀ W, (zeroValue 48).run Try.prog W = .ok (.agg cz) W := fun _ => by rw [hcz]; kernel_rfl
  have ZH : Hid (cz.size = 34) := by show _ = _; rw [hcz]; exact ndC_size rfl
  have HR := Lib.hid (hr.more hB)
  have HL := Lib.hid hl
  have H3 := Lib.hid h3
  have HA := Lib.hid ha
  clear hl h3 ha hB hr hcz
  unfold little
  go_enter Try.func24, Try.ntmps24
  go_wp2_with fail
  go_loopw [6, 8, 13] (fun o _ i wr => ∃ k : Nat, k ≤ n ∧ i = .int .i64 k ∧ o = .int .u64 (endL 0 (l.take k)) ∧ Hid (okS 0 (l.take k)) ∧ Below w.heap.size w wr) (fun _ _ i _ => n - (intOf i).toNat)
  case atStart => exact ⟨0, by omega, rfl, rfl, trivial, Below.refl _ _⟩
  case round =>
    obtain ⟨k, hk, rfl, rfl, HOK, hbw⟩ := hrel
    by_cases hlt : k < n
    · have hkl : k < l.length := by rw [HL.out]; exact hlt
      obtain ⟨ad, hA, hbl, hcell⟩ := rd_node (HR.out.below hbw) H3.out hkl
      subst hA
      obtain ⟨x, hxe⟩ : ∃ x, x = l[k] := ⟨_, rfl⟩
      have hx3 : x.s.length = 32 := by rw [hxe]; exact H3.out _ (List.getElem_mem hkl)
      have hxa : 0 ≤ x.a := by rw [hxe]; exact HA.out _ (List.getElem_mem hkl)
      have hnot := okS_not_next hkl
      have hsn : l.take (k + 1) = l.take k ++ [x] := by rw [hxe]; exact List.take_succ_eq_append_getElem hkl
      rw [← hxe] at hcell hnot
      obtain ⟨C, hC⟩ : ∃ C, C = endL 0 (l.take k) := ⟨_, rfl⟩
      have hCb := endL_bd HOK.out (by omega)
      rw [← hC] at hnot hCb ⊢
      have hnb := nodeB_iff hxa hx3
      have HCE := Lib.hid hcell
      have HI : Hid ((Try.prog.info? 48).map (·.size) = some (ndV x).length) := by rw [ndV_length hx3]; exact info_held
      have HIC : Hid ((Try.prog.info? 48).map (·.size) = some (ndC x).size) := by rw [ndC_size hx3]; exact info_held
      have HX3 := Lib.hid hx3
      have HXA := Lib.hid hxa
      have HNB := Lib.hid hnb
      have HNT := Lib.hid hnot
      have HSN := Lib.hid hsn
      have HBW := Lib.hid hbw
      have HCC := Lib.hid hC
      have k0 : (0 : Int) ≤ (k : Int) := by omega
      have k1 : (k : Int) < (n : Int) := by omega
      have ek : IntKind.i64.wrap ((k : Int) + 1) = ((k + 1 : Nat) : Int) := by rw [IntWalk.i64_in _ (by omega)]; omega
      clear hcell hxe hx3 hxa hnot hsn hC hbw hnb
      go_wp2_with (first
        | (refine wpList_load_at rfl 48 (.tmp 15) rfl (ad.add (k * 34)) rfl HCE.out Try.underlying48 rfl HI.out ?_
           change wpList _ _ _ _ (Act.put _ _ (.agg (ndC x))) _)
        | (refine wpList_store_row rfl 48 (.tmp 8) (.tmp 16) rfl wr.heap.size (ndC x) rfl rfl 48 cz (heap_alloc_new _ _) HIC.out (by rw [ndC_size HX3.out, ZH.out]) (ndC_one _) ?_
           generalize hwx : World.setRow _ _ _ = wx
           have E1 := Lib.hid (show Blk wx wr.heap.size (ndC x) 48 by rw [← hwx]; exact setRow_heap _ _ _ _ _ _ (heap_alloc_new _ _))
           have EB := Lib.hid (show Below w.heap.size w wx by rw [← hwx]; exact below_setRow (HBW.out.alloc HBW.out.size _) HBW.out.size _)
           clear hwx)
        | (refine wpList_load_row rfl 48 (.tmp 8) rfl wr.heap.size rfl 48 (ndC x) (0, 0) _ E1.out Try.underlying48 rfl HIC.out ?_))
      refine (isNode_any x HXA.out _).mono ?_
      rintro e w2 ⟨rfl, bw⟩
      have D1 := Lib.hid (E1.out.below bw)
      have DB := Lib.hid (EB.out.trans (bw.mono EB.out.size))
      have c0 := ndt_d D1.out
      have c1 := ndt_a D1.out
      clear bw E1 EB
      by_cases hnb : nodeB x = true
      · have hox := HNB.out.1 hnb
        rw [hnb]
        by_cases hlt' : x.a < C
        · have hd : decide (x.a < C) = true := decide_eq_true hlt'
          have HNO := Lib.hid (HNT.out (by rintro ⟨_, h⟩; omega))
          clear hnb hlt'
          go_wp2_with fail
          go_ret2
          exact ⟨.inr ⟨HNO.out, rfl⟩, DB.out⟩
        · have hd : decide (x.a < C) = false := decide_eq_false hlt'
          obtain ⟨M, hM⟩ : ∃ M, M = manyI x.d := ⟨_, rfl⟩
          have HQ := Lib.hid (show ∀ W, Calls Try.prog 37 #[.int .i64 x.d] W (RetQ (.int .u64 M) W) from fun W => by rw [hM]; exact leaves_q x.d hox.1 hox.2.1 W)
          have hmm := hox.many
          have hx5 := hox.2.2.2.2.1
          rw [← hM] at hmm hx5
          have ea : IntKind.u64.wrap (x.a + M) = x.a + M := IntWalk.u64_in _ (by have := HXA.out; omega)
          have HOK2 := Lib.hid (show okS 0 (l.take (k + 1)) by rw [HSN.out, okS_snoc]; exact ⟨HOK.out, hox, by rw [← HCC.out]; omega⟩)
          have HEN := Lib.hid (show endL 0 (l.take (k + 1)) = x.a + M by rw [HSN.out, endL_snoc, hM])
          clear hnb hlt' hox hM hmm hx5
          go_wp2_with fail
          go_quiet ((go_at_call 37; exact RetQ.quiet (HQ.out _)))
          go_wp2_with fail
          go_roundw
          case rel => exact ⟨k + 1, by omega, by go_num, by rw [HEN.out], HOK2, below_drewN' DB.out _⟩
          case measure => simp [intOf]; omega
      · have hnb' : nodeB x = false := by simpa using hnb
        have HNO := Lib.hid (HNT.out (by rintro ⟨h, _⟩; exact hnb (HNB.out.2 h)))
        rw [hnb']
        clear hnb hnb'
        go_wp2_with fail
        go_ret2
        exact ⟨.inr ⟨HNO.out, rfl⟩, DB.out⟩
    · obtain rfl : k = n := by omega
      have hok : okS 0 l := by have := HOK.out; rwa [List.take_of_length_le (by rw [HL.out]; exact Nat.le_refl _)] at this
      have HBW := Lib.hid hbw
      have HK := Lib.hid hok
      clear hbw hok
      go_wp2_with fail
      refine (sclone_any A k c l _ HL.out H3.out HBW.out.size (HR.out.below HBW.out) hn).mono ?_
      rintro e w2 ⟨A2, n2, c2, rfl, ho, bw⟩
      have HO := Lib.hid ho
      have HB := Lib.hid bw
      clear ho bw
      go_wp2_with fail
      go_ret2
      have hn2 : k = n2 := by
        have h1 := HO.out.1
        rw [nvs_length H3.out, HL.out] at h1; omega
      subst hn2
      obtain ⟨F, hF, hlo⟩ := tr_new HO.out HL.out HK.out HB.out rfl
      have hs := HBW.out.size
      exact ⟨.inl ⟨HK.out, _, F, rfl, hF, fun q hq => Nat.le_trans hs (hlo q hq)⟩, (HBW.out.trans (HB.out.mono hs)).alloc (Nat.le_trans hs HB.out.size) _⟩
theorem from_nil (v : Value) (w : World) : Calls Try.prog 24 #[.nilIface, v] w (fun e w' => e = .returned (.tuple #[.pointer none, .int .i64 1]) ∧ w' = w) := by
  go_enter Try.func24, Try.ntmps24
  go_wp2_with fail
  go_ret2
  exact ⟨rfl, rfl⟩
set_option maxRecDepth 100000 in
theorem build_seed (s : List UInt8) (hs : s.length = 32) (W : World) : (Instr.build 48 #[(2, .agg (bva s))]).run Try.prog W = .ok (.agg (ndC ⟨0, 0, s⟩)) W := by
  have e : Try.prog.built 48 [(2, .agg (bva s))] = Instr.fill places3 (ndC zeroNd) [(2, .agg (bva s))] := by kernel_rfl
  refine run_build W 48 _ _ ?_
  show Try.prog.built 48 [(2, .agg (bva s))] = _
  rw [e]
  have s0 : (ndC zeroNd).size = 34 := ndC_size rfl
  have c3 : (Value.agg (bva s)).cells = bva s := rfl
  have l3 : (bva s).toList.length = 32 := by rw [Array.length_toList, bva_size, hs]
  obtain ⟨z3, f3⟩ := Great.foldl_set 2 (bva s).toList 0 (ndC zeroNd)
  generalize hC : ((bva s).toList.zipIdx 0).foldl (fun cs (x : Value × Nat) => cs.setIfInBounds (2 + x.2) x.1) (ndC zeroNd) = C at z3 f3
  rw [fill_step places3 (off := 2) (size := 32) rfl _ (by rw [c3, bva_size, hs]) _ (by rw [s0]; omega), c3, hC, Instr.fill]
  congr 1
  have hL : ∀ i : Nat, (ndC ⟨0, 0, s⟩)[i]? = (Value.int .i64 0 :: Value.int .u64 0 :: bv s)[i]? := fun i => by rw [ndC, List.getElem?_toArray]; rfl
  have hZ : ∀ i : Nat, (ndC zeroNd)[i]? = (Value.int .i64 0 :: Value.int .u64 0 :: bv zeroNd.s)[i]? := fun i => by rw [ndC, List.getElem?_toArray]; rfl
  apply Array.ext_getElem?
  intro j
  rw [f3 j, s0, l3, hL, hZ]
  match j with
  | 0 => simp
  | 1 => simp
  | j + 2 =>
    by_cases h3 : j < 32
    · rw [if_pos (by omega), List.getElem?_cons_succ, List.getElem?_cons_succ]
      simp [bva]
    · rw [if_neg (by omega), List.getElem?_eq_none (by simp [bv_length, zeroNd]; omega), List.getElem?_eq_none (by simp [bv_length, hs]; omega)]
/-- What New answers. -/
def RetNew (l : List Nd) (w : World) (e : Ending) (w' : World) : Prop :=
  (∃ g F, e = .returned (.pointer (some ⟨g, 0, none⟩)) ∧ Tr w' g l F ∧ ∀ k, F k → w.heap.size ≤ k) ∧ Below w.heap.size w w'
theorem okS_root {s : List UInt8} (hs : s.length = 32) : okS 0 [⟨0, 0, s⟩] := ⟨⟨Int.le_refl 0, by show (0 : Int) ≤ 17; omega, Int.le_refl 0, by show (0 : Int) % manyI 0 = 0; decide, by show (0 : Int) + manyI 0 ≤ 131072; decide, hs⟩, Int.le_refl 0, trivial⟩
set_option maxRecDepth 100000 in
set_option maxHeartbeats 800000 in
theorem new_any (s : List UInt8) (hs : s.length = 32) (w : World) : Calls Try.prog 13 #[little, .agg (bva s)] w (RetNew [⟨0, 0, s⟩] w) := by
  have HK : Hid ((Try.prog.info? 23).map (·.size) = some (bva s).size) := by rw [bva_size, hs]; exact info_keyL
  have B1 := Lib.hid (show Blk (w.alloc (.cells (bva s) 23)) w.heap.size (bva s) 23 from heap_alloc_new _ _)
  have BB := Lib.hid (show Below w.heap.size w (w.alloc (.cells (bva s) 23)) from (Below.refl _ _).alloc (Nat.le_refl _) _)
  have HS := Lib.hid hs
  obtain ⟨x, hx⟩ : ∃ x : Nd, x = ⟨0, 0, s⟩ := ⟨_, rfl⟩
  have hxs : x.s.length = 32 := by rw [hx]; exact hs
  have HBS := Lib.hid (show ∀ W, (Instr.build 48 #[(2, .agg (bva s))]).run Try.prog W = .ok (.agg (ndC x)) W from fun W => by rw [hx]; exact build_seed s hs W)
  have HXS := Lib.hid hxs
  have HX := Lib.hid hx
  obtain ⟨ie, hie, hz0, hz1, hz2⟩ := info_parts info_heldW
  clear hs hx hxs
  unfold little
  go_enter Try.func13, Try.ntmps13
  go_wp2_with (first
    | (refine wpList_load_row rfl 23 (.tmp 3) rfl w.heap.size rfl 23 (bva s) (0, 0) _ B1.out Try.underlying23 rfl HK.out ?_)
    | (refine wpList_build rfl 48 #[(2, .tmp 9)] rfl (v := .agg (ndC x)) ?hbld ?_; case hbld => (simp only [List.map_toArray, List.map_cons, List.map_nil]; show (Instr.build 48 #[(2, .agg (bva s))]).run Try.prog _ = _; exact HBS.out _))
    | (refine wpList_buildSlice rfl 40 48 1 #[(0, .tmp 10)] rfl (ndC x) ie _ Try.underlying40 hie hz0 (by rw [hz1]; omega) (by rw [hz1]; omega) (by rw [hz1]; simp only [List.map_toArray, List.map_cons, List.map_nil]; exact one_fill x HXS.out) ?_))
  have hw2 : Below w.heap.size w ((w.alloc (.cells (bva s) 23)).alloc (.cells (ndC x) 48)) := BB.out.alloc BB.out.size _
  have hrd : Rd ((w.alloc (.cells (bva s) 23)).alloc (.cells (ndC x) 48)).heap.size ((w.alloc (.cells (bva s) 23)).alloc (.cells (ndC x) 48)) (some ⟨w.heap.size + 1, 0, none⟩) (nvs [x]) := by
    rw [nvs, nvs, List.append_nil]
    exact rd_ndC (heap_alloc2_new _ _ _)
  have HW := Lib.hid hw2
  have HR := Lib.hid hrd
  have HRO := Lib.hid (show okS 0 [x] by rw [HX.out]; exact okS_root HS.out)
  clear hw2 hrd
  refine (from_any (some ⟨w.heap.size + 1, 0, none⟩) 1 1 [x] _ rfl (fun y hy => by rw [List.mem_singleton] at hy; rw [hy]; exact HXS.out) (fun y hy => by rw [List.mem_singleton] at hy; rw [hy, HX.out]; exact Int.le_refl 0) (Nat.le_refl _) HR.out (by omega)).mono ?_
  rintro e w2 ⟨⟨_, g, F, rfl, ht, hF⟩ | ⟨hno, _⟩, bw⟩
  · have HT := Lib.hid ht
    have HF := Lib.hid hF
    have HB := Lib.hid bw
    clear ht hF bw
    go_wp2_with fail
    go_ret
    rw [← HX.out]
    exact ⟨⟨g, F, rfl, HT.out, fun k hk => Nat.le_trans HW.out.size (HF.out k hk)⟩, HW.out.trans (HB.out.mono HW.out.size)⟩
  · exact absurd HRO.out hno
set_option maxRecDepth 100000 in
set_option maxHeartbeats 800000 in
theorem new_nil (s : List UInt8) (hs : s.length = 32) (w : World) : Calls Try.prog 13 #[.nilIface, .agg (bva s)] w (RetB (.pointer none) w) := by
  have HK : Hid ((Try.prog.info? 23).map (·.size) = some (bva s).size) := by rw [bva_size, hs]; exact info_keyL
  have B1 := Lib.hid (show Blk (w.alloc (.cells (bva s) 23)) w.heap.size (bva s) 23 from heap_alloc_new _ _)
  have BB := Lib.hid (show Below w.heap.size w (w.alloc (.cells (bva s) 23)) from (Below.refl _ _).alloc (Nat.le_refl _) _)
  have HS := Lib.hid hs
  obtain ⟨x, hx⟩ : ∃ x : Nd, x = ⟨0, 0, s⟩ := ⟨_, rfl⟩
  have hxs : x.s.length = 32 := by rw [hx]; exact hs
  have HBS := Lib.hid (show ∀ W, (Instr.build 48 #[(2, .agg (bva s))]).run Try.prog W = .ok (.agg (ndC x)) W from fun W => by rw [hx]; exact build_seed s hs W)
  have HXS := Lib.hid hxs
  have HX := Lib.hid hx
  obtain ⟨ie, hie, hz0, hz1, hz2⟩ := info_parts info_heldW
  clear hs hx hxs
  go_enter Try.func13, Try.ntmps13
  go_wp2_with (first
    | (refine wpList_load_row rfl 23 (.tmp 3) rfl w.heap.size rfl 23 (bva s) (0, 0) _ B1.out Try.underlying23 rfl HK.out ?_)
    | (refine wpList_build rfl 48 #[(2, .tmp 9)] rfl (v := .agg (ndC x)) ?hbld ?_; case hbld => (simp only [List.map_toArray, List.map_cons, List.map_nil]; show (Instr.build 48 #[(2, .agg (bva s))]).run Try.prog _ = _; exact HBS.out _))
    | (refine wpList_buildSlice rfl 40 48 1 #[(0, .tmp 10)] rfl (ndC x) ie _ Try.underlying40 hie hz0 (by rw [hz1]; omega) (by rw [hz1]; omega) (by rw [hz1]; simp only [List.map_toArray, List.map_cons, List.map_nil]; exact one_fill x HXS.out) ?_))
  have HW := Lib.hid (show Below w.heap.size w ((w.alloc (.cells (bva s) 23)).alloc (.cells (ndC x) 48)) from BB.out.alloc BB.out.size _)
  refine (from_nil _ _).mono ?_
  rintro e w2 ⟨rfl, rfl⟩
  go_wp2_with fail
  go_ret
  exact ⟨rfl, HW.out⟩
end Go.Proofs.Ytkfcllcdkgnfbaa.Kt
