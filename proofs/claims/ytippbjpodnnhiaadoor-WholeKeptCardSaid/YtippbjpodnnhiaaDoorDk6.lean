/-
  Texts of this seat, one behind the other: KgCopy, KgIsN, KgPlain, KgFrom, KcPure, KcTell, KcPlain, WiElt, KcRDec, WiPut, WiGet.
-/
import Derived.Test.YtippbjpodnnhiaaDoorRows
import Derived.Deep.QuietTactic
import Derived.BigQuiet
import Derived.Laws.BitsAllLaws
import Derived.Test.YtippbjpodnnhiaaDoorDk5
/-
  The contracts of slices.Clone over held nodes, and of the tree's Held, Count; trees with the blocks that are theirs.
-/
namespace Go.Proofs.YtippbjpodnnhiaaDoor.Kg
open Go.RowKit
variable {ci : Ciph}
attribute [local go_sem ↓] Go.wp_at_zero Go.wp_at_succ
/-- A tree at block g whose held nodes are l; all blocks that are its own are of F. -/
def Tr (ci : Ciph) (w : World) (g : Nat) (l : List Nd) (F : Nat → Prop) : Prop :=
  ∃ A n c, TrA ci w g A n c l ∧ F g ∧ (∀ k, (Value.slice A n c).ownBlock = some k → F k) ∧ ∀ k, F k → k < w.heap.size
section
variable {w w' : World} {g : Nat} {l : List Nd} {F S : Nat → Prop}
theorem Tr.ok (h : Tr ci w g l F) : okS 0 l := by obtain ⟨_, _, _, h, _⟩ := h; exact h.ok
theorem Tr.lt (h : Tr ci w g l F) : ∀ k, F k → k < w.heap.size := by obtain ⟨_, _, _, _, _, _, h⟩ := h; exact h
theorem Tr.mem (h : Tr ci w g l F) : F g := by obtain ⟨_, _, _, _, h, _⟩ := h; exact h
theorem Tr.but (h : Tr ci w g l F) (hb : But S w w') (hd : ∀ k, F k → S k → False) : Tr ci w' g l F := by
  obtain ⟨A, n, c, h1, h2, h3, h4⟩ := h
  exact ⟨A, n, c, h1.but hb (fun hs => hd g h2 hs) (fun k hk hs => hd k (h3 k hk) hs), h2, h3, fun k hk => Nat.lt_of_lt_of_le (h4 k hk) hb.size⟩
theorem Tr.below (h : Tr ci w g l F) (hb : Below w.heap.size w w') : Tr ci w' g l F := by
  obtain ⟨A, n, c, h1, h2, h3, h4⟩ := h
  exact ⟨A, n, c, h1.below hb, h2, h3, fun k hk => Nat.lt_of_lt_of_le (h4 k hk) hb.size⟩
theorem Tr.drewN (h : Tr ci w g l F) (q : Nat) : Tr ci (w.drewN q) g l F := h.below (below_drewN' (Below.refl _ _) q)
end
set_option maxRecDepth 100000 in
set_option maxHeartbeats 800000 in
theorem sclone_any {B : Nat} (A : Option Addr) (n c : Nat) (l : List Nd) (w : World) (hl : l.length = n) (h3 : ∀ x ∈ l, x.s.length = 32) (hB : B ≤ w.heap.size) (hr : Rd B w A (nvs l)) (hn : n ≤ 1000000) :
    Calls Tryd.prog 21 #[.slice A n c] w (RetRowN 53 34 (nvs l) w) := by
  have hlen : (nvs l).length = n * 34 := by rw [nvs_length h3, hl]
  rcases A with _ | ad
  · have h0 : n = 0 := by
      rcases Nat.eq_zero_or_pos n with h | h
      · exact h
      · obtain ⟨u, hu⟩ : ∃ u, (nvs l)[0]? = some u := ⟨(nvs l)[0]'(by omega), List.getElem?_eq_getElem (by omega)⟩
        obtain ⟨_, h, _⟩ := hr 0 u hu
        cases h
    subst h0
    have hnil := fun W => Lib.run_eql_slice_nil (P := Tryd.prog) W 38 53 none 0 c 0 0 Tryd.underlying38
    simp only [Option.isNone_none] at hnil
    obtain rfl : l = [] := List.eq_nil_of_length_eq_zero hl
    clear hr hB hl h3 hlen hn
    go_enter Tryd.func21, Tryd.ntmps21
    go_wp2_with fail
    go_ret
    exact ⟨none, 0, 0, rfl, World.ownsRow_nil _ _ _ _, Below.refl _ _⟩
  · have hnil := fun W => Lib.run_eql_slice_nil (P := Tryd.prog) W 38 53 (some ad) n c 0 0 Tryd.underlying38
    simp only [Option.isNone_some] at hnil
    have HR := Lib.hid (hr.more hB)
    have HL := Lib.hid hlen
    clear hr hB hl h3 hlen
    go_enter Tryd.func21, Tryd.ntmps21
    go_wp2_with (at_builtin
                 refine wpList_appN _ rfl (.tmp 5) (.tmp 6) 38 rfl heldsElt (base := w.heap.size) (v := .slice (some ⟨w.heap.size, 0, none⟩) 0 0) rfl (World.ownsRow_lit w #[] 0 (Nat.le_refl _) (Nat.zero_le _) rfl) (m := n) rfl (HR.out.below ((Below.refl _ _).alloc (Nat.le_refl _) _)) HL.out (nvs_one _) ?_ ?_ ?_
                 · omega
                 · simp
                 intro A3 c3 w3 ho3 hg3 _
                 have hb3 : Below w.heap.size w w3 := app_belowN ((Below.refl _ _).alloc (Nat.le_refl _) _) (World.ownsRow_lit (size := 34) w #[] 0 (Nat.le_refl _) (Nat.zero_le _) rfl) hg3 (Nat.le_refl _) (by simp)
                 have O3 := Lib.hid ho3
                 have B3 := Lib.hid hb3
                 clear ho3 hg3 hb3)
    go_ret
    have h := O3.out
    rw [List.nil_append, Nat.zero_add] at h
    exact ⟨A3, n, c3, rfl, h, B3.out⟩
theorem theld_any (g : Nat) (A : Option Addr) (n c : Nat) (l : List Nd) (w : World) (h : TrA ci w g A n c l) :
    Calls Tryd.prog 8 #[.pointer (some ⟨g, 0, none⟩)] w (RetRowN 53 34 (nvs l) w) := by
  have c1 := h.c1
  have H := Lib.hid h
  clear h
  go_enter Tryd.func8, Tryd.ntmps8
  go_wp2_with fail
  refine (sclone_any A n c l _ H.out.len H.out.len3 (Nat.le_refl _) H.out.rd (by have := H.out.few; omega)).mono ?_
  rintro e w2 ⟨A2, n2, c2, rfl, ho, bw⟩
  have HO := Lib.hid ho
  have HB := Lib.hid bw
  clear ho bw
  go_wp2_with fail
  go_ret
  exact ⟨A2, n2, c2, rfl, HO.out, HB.out⟩
theorem theld_nil (w : World) : Calls Tryd.prog 8 #[.pointer none] w (fun e w' => e = .returned (.slice none 0 0) ∧ w' = w) := by
  go_enter Tryd.func8, Tryd.ntmps8
  go_wp2_with fail
  go_ret
  exact ⟨rfl, rfl⟩
theorem tcount_nil (w : World) : Calls Tryd.prog 11 #[.pointer none] w (fun e w' => e = .returned (.int .i64 0) ∧ w' = w) := by
  go_enter Tryd.func11, Tryd.ntmps11
  go_wp2_with fail
  go_ret
  exact ⟨rfl, rfl⟩
set_option maxRecDepth 100000 in
set_option maxHeartbeats 1600000 in
theorem tcount_any (g : Nat) (A : Option Addr) (n c : Nat) (l : List Nd) (w : World) (h : TrA ci w g A n c l) :
    Calls Tryd.prog 11 #[.pointer (some ⟨g, 0, none⟩)] w (RetB (.int .i64 (countL l)) w) := by
  obtain ⟨cz, hcz⟩ : ∃ cz, cz = ndC zeroNd := ⟨_, rfl⟩
  have hzh : ∀ W, (zeroValue 53).run Tryd.prog W = .ok (.agg cz) W := fun _ => by rw [hcz]; kernel_rfl
  have ZH : Hid (cz.size = 34) := by show _ = _; rw [hcz]; exact ndC_size rfl
  have c1 := h.c1
  have HR := Lib.hid h.rd
  have HL := Lib.hid h.len
  have H3 := Lib.hid h.len3
  have HK := Lib.hid h.ok
  have HN := Lib.hid (okS_N h.ok)
  have hfew := h.few
  clear h hcz
  go_enter Tryd.func11, Tryd.ntmps11
  go_wp2_with fail
  clear c1
  go_loopw [3, 5, 13] (fun o _ i wr => ∃ k : Nat, k ≤ n ∧ i = .int .i64 k ∧ o = .int .i64 (countL (l.take k)) ∧ Below w.heap.size w wr) (fun _ _ i _ => n - (intOf i).toNat)
  case atStart => exact ⟨0, by omega, rfl, rfl, Below.refl _ _⟩
  case round =>
    obtain ⟨k, hk, rfl, rfl, hbw⟩ := hrel
    by_cases hlt : k < n
    · have hkl : k < l.length := by rw [HL.out]; exact hlt
      obtain ⟨ad, hA, hbl, hcell⟩ := rd_node (HR.out.below hbw) H3.out hkl
      subst hA
      have hsn := countL_snoc l hkl
      have hbd := countL_bd (l.take k) (fun y hy => HN.out y (List.mem_of_mem_take hy))
      have hlk : (l.take k).length = k := by rw [List.length_take]; omega
      obtain ⟨x, hxe⟩ : ∃ x, x = l[k] := ⟨_, rfl⟩
      have hx : okN x := by rw [hxe]; exact HN.out _ (List.getElem_mem hkl)
      have hm := (manyI_ok hx.1 hx.2.1).2
      rw [← hxe] at hcell hsn
      obtain ⟨C, hC⟩ : ∃ C, C = countL (l.take k) := ⟨_, rfl⟩
      obtain ⟨M, hM⟩ : ∃ M, M = manyI x.d := ⟨_, rfl⟩
      have HSN := Lib.hid (show countL (l.take (k + 1)) = C + M by rw [hsn, hC, hM])
      rw [← hC, hlk] at hbd
      rw [← hM] at hm
      have ew : IntKind.i64.wrap M = M := IntWalk.i64_in _ (by omega)
      have ea : IntKind.i64.wrap (C + M) = C + M := IntWalk.i64_in _ (by omega)
      have ek : IntKind.i64.wrap ((k : Int) + 1) = ((k + 1 : Nat) : Int) := by rw [IntWalk.i64_in _ (by omega)]; omega
      have HCE := Lib.hid hcell
      have HI : Hid ((Tryd.prog.info? 53).map (·.size) = some (ndV x).length) := by rw [ndV_length hx.2.2.2]; exact info_held
      have HIC : Hid ((Tryd.prog.info? 53).map (·.size) = some (ndC x).size) := by rw [ndC_size hx.2.2.2]; exact info_held
      have HX3 : Hid (x.s.length = 32) := hx.2.2.2
      have HLV := Lib.hid (show ∀ W, Calls Tryd.prog 26 #[.int .i64 x.d] W (fun e w' => e = .returned (.int .u64 M) ∧ W = w') from fun W => by rw [hM]; exact leaves_any x.d hx.1 hx.2.1 W)
      have HBW := Lib.hid hbw
      have k0 : (0 : Int) ≤ (k : Int) := by omega
      have k1 : (k : Int) < (n : Int) := by omega
      rw [← hC]
      clear hcell hsn hbd hlk hxe hx hbw hC hM
      go_wp2_with (first
        | (refine wpList_load_at rfl 53 (.tmp 15) rfl (ad.add (k * 34)) rfl HCE.out Tryd.underlying53 rfl HI.out ?_
           change wpList _ _ _ _ (Act.put _ _ (.agg (ndC x))) _)
        | (refine wpList_store_row rfl 53 (.tmp 5) (.tmp 16) rfl wr.heap.size (ndC x) rfl rfl 53 cz (heap_alloc_new _ _) HIC.out (by rw [ndC_size HX3.out, ZH.out]) (ndC_one _) ?_
           generalize hwx : World.setRow _ _ _ = wx
           have c0 : wx.cell? ⟨wr.heap.size, 0, none⟩ = some (.int .i64 x.d) := by
             have e1 : Blk wx wr.heap.size (ndC x) 53 := by rw [← hwx]; exact setRow_heap _ _ _ _ _ _ (heap_alloc_new _ _)
             exact ndt_d e1
           have EB := Lib.hid (show Below w.heap.size w wx by rw [← hwx]; exact below_setRow (HBW.out.alloc HBW.out.size _) HBW.out.size _)
           clear hwx))
      refine (HLV.out _).mono ?_
      rintro e w2 ⟨rfl, rfl⟩
      go_wp2_with fail
      try simp only [Act.put, List.setIfInBounds_toArray, List.set_cons_zero, List.set_cons_succ]
      go_roundw
      case rel => exact ⟨k + 1, by omega, by go_num, by rw [HSN.out], EB.out⟩
      case measure => simp [intOf]; omega
    · obtain rfl : k = n := by omega
      go_wp2
      go_ret
      rw [List.take_of_length_le (by rw [HL.out]; exact Nat.le_refl _)]
      exact ⟨rfl, hbw⟩
end Go.Proofs.YtippbjpodnnhiaaDoor.Kg
/-
  The contract of isNode: has the whole tree a node there?
-/
namespace Go.Proofs.YtippbjpodnnhiaaDoor.Kg
open Go.RowKit
variable {ci : Ciph}
attribute [local go_sem ↓] Go.wp_at_zero Go.wp_at_succ
def nodeB (x : Nd) : Bool := decide (0 ≤ x.d) && (decide (x.d ≤ 17) && (decide (x.a < 131072) && decide (x.a % manyI x.d = 0)))
theorem nodeB_iff {x : Nd} (ha : 0 ≤ x.a) (hs : x.s.length = 32) : nodeB x = true ↔ okH x := by
  simp only [nodeB, Bool.and_eq_true, decide_eq_true_eq, okH]
  constructor
  · rintro ⟨h0, h1, h2, h3⟩
    refine ⟨h0, h1, ha, h3, ?_, hs⟩
    obtain ⟨q, hq⟩ := Int.dvd_of_emod_eq_zero h3
    have hk : ∃ K : Int, manyI x.d * K = 131072 := by
      have h : x.d = 0 ∨ x.d = 1 ∨ x.d = 2 ∨ x.d = 3 ∨ x.d = 4 ∨ x.d = 5 ∨ x.d = 6 ∨ x.d = 7 ∨ x.d = 8 ∨ x.d = 9 ∨ x.d = 10 ∨ x.d = 11 ∨ x.d = 12 ∨ x.d = 13 ∨ x.d = 14 ∨ x.d = 15 ∨ x.d = 16 ∨ x.d = 17 := by omega
      rcases h with h | h | h | h | h | h | h | h | h | h | h | h | h | h | h | h | h | h <;> rw [h]
      · exact ⟨1, by decide⟩
      · exact ⟨2, by decide⟩
      · exact ⟨4, by decide⟩
      · exact ⟨8, by decide⟩
      · exact ⟨16, by decide⟩
      · exact ⟨32, by decide⟩
      · exact ⟨64, by decide⟩
      · exact ⟨128, by decide⟩
      · exact ⟨256, by decide⟩
      · exact ⟨512, by decide⟩
      · exact ⟨1024, by decide⟩
      · exact ⟨2048, by decide⟩
      · exact ⟨4096, by decide⟩
      · exact ⟨8192, by decide⟩
      · exact ⟨16384, by decide⟩
      · exact ⟨32768, by decide⟩
      · exact ⟨65536, by decide⟩
      · exact ⟨131072, by decide⟩
    obtain ⟨K, hK⟩ := hk
    have hm := (manyI_ok h0 h1).2
    rw [hq, ← hK] at h2 ⊢
    have hqk : q < K := Int.lt_of_mul_lt_mul_left h2 (by omega)
    have : manyI x.d * (q + 1) ≤ manyI x.d * K := Int.mul_le_mul_of_nonneg_left (by omega) (by omega)
    rw [Int.mul_add, Int.mul_one] at this
    exact this
  · rintro ⟨h0, h1, h2, h3, h4, _⟩
    have := (manyI_ok h0 h1).2
    exact ⟨h0, h1, by omega, h3⟩
set_option maxRecDepth 100000 in
set_option maxHeartbeats 800000 in
theorem isNode_any (x : Nd) (ha : 0 ≤ x.a) (w : World) :
    Calls Tryd.prog 25 #[.agg (ndC x)] w (RetB (.bool (nodeB x)) w) := by
  have b1 : Blk (w.alloc (.cells (ndC x) 53)) w.heap.size (ndC x) 53 := heap_alloc_new _ _
  have BB := Lib.hid (show Below w.heap.size w (w.alloc (.cells (ndC x) 53)) from (Below.refl _ _).alloc (Nat.le_refl _) _)
  have c0 := ndt_d b1
  have c1 := ndt_a b1
  clear b1
  by_cases h0 : 0 ≤ x.d
  · by_cases h1 : x.d ≤ 17
    · obtain ⟨M, hM⟩ : ∃ M, M = manyI x.d := ⟨_, rfl⟩
      have hm := (manyI_ok h0 h1).2
      rw [← hM] at hm
      have d0 : decide (x.d < 0) = false := decide_eq_false (by omega)
      have d1 : decide (x.d > 17) = false := decide_eq_false (by omega)
      have HQ := Lib.hid (show ∀ W, Calls Tryd.prog 26 #[.int .i64 x.d] W (RetQ (.int .u64 M) W) from fun W => by rw [hM]; exact leaves_q x.d h0 h1 W)
      have HQ0 := Lib.hid (show ∀ W, Calls Tryd.prog 26 #[.int .i64 0] W (RetQ (.int .u64 131072) W) from fun W => leaves_q 0 (by omega) (by omega) W)
      by_cases h2 : x.a < 131072
      · have d2 : decide (x.a < 131072) = true := decide_eq_true h2
        have hMz : (M == 0) = false := by simp; omega
        obtain ⟨r, hr⟩ : ∃ r, x.a.tmod M = r := ⟨_, rfl⟩
        have hr' : r = x.a % M := by rw [← hr]; exact Int.tmod_eq_emod_of_nonneg ha
        have hb : nodeB x = (r == 0) := by
          rw [nodeB, ← hM, decide_eq_true h0, decide_eq_true h1, d2, ← hr', Bool.true_and, Bool.true_and, Bool.true_and]
          by_cases h : r = 0 <;> simp [h]
        rw [hb]
        clear hb h0 h1 h2 hM ha hr'
        go_enter Tryd.func25, Tryd.ntmps25
        go_wp2_with fail
        go_quiet ((go_at_call 26; first | exact RetQ.quiet (HQ0.out _) | exact RetQ.quiet (HQ.out _)))
        go_wp2
        go_ret
        exact ⟨rfl, below_drewN' BB.out _⟩
      · have d2 : decide (x.a < 131072) = false := decide_eq_false h2
        have hb : nodeB x = false := by rw [nodeB, d2]; simp
        rw [hb]
        clear hb h0 h1 h2 hM ha HQ
        go_enter Tryd.func25, Tryd.ntmps25
        go_wp2_with fail
        go_quiet ((go_at_call 26; exact RetQ.quiet (HQ0.out _)))
        go_wp2
        go_ret
        exact ⟨rfl, below_drewN' BB.out _⟩
    · have d0 : decide (x.d < 0) = false := decide_eq_false (by omega)
      have d1 : decide (x.d > 17) = true := decide_eq_true (by omega)
      have hb : nodeB x = false := by rw [nodeB, decide_eq_false h1]; simp
      rw [hb]
      clear hb h0 h1 ha
      go_enter Tryd.func25, Tryd.ntmps25
      go_wp2
      go_ret
      exact ⟨rfl, BB.out⟩
  · have d0 : decide (x.d < 0) = true := decide_eq_true (by omega)
    have hb : nodeB x = false := by rw [nodeB, decide_eq_false h0]; simp
    rw [hb]
    clear hb h0 ha
    go_enter Tryd.func25, Tryd.ntmps25
    go_wp2
    go_ret
    exact ⟨rfl, BB.out⟩
end Go.Proofs.YtippbjpodnnhiaaDoor.Kg
/-
  The contract of plain: what a tree holds, as the document's nodes.
-/
namespace Go.Proofs.YtippbjpodnnhiaaDoor.Kg
open Go.RowKit
variable {ci : Ciph}
attribute [local go_sem ↓] Go.wp_at_zero Go.wp_at_succ
theorem rd_ndC {w : World} {g : Nat} {x : Nd} {t : TypeId} (h : Blk w g (ndC x) t) : Rd w.heap.size w (some ⟨g, 0, none⟩) (ndV x) := fun k u hu =>
  ⟨_, rfl, h.lt, by rw [add_head, h.cell, ndC, List.getElem?_toArray]; exact hu⟩
theorem nvs_snoc (l : List Nd) {k : Nat} (h : k < l.length) : nvs (l.take (k + 1)) = nvs (l.take k) ++ ndV l[k] := by
  rw [List.take_succ_eq_append_getElem h, nvs_append]; simp [nvs]
theorem info_key : (Tryd.prog.info? 23).map (·.size) = some 32 := by kernel_rfl
end Go.Proofs.YtippbjpodnnhiaaDoor.Kg
/-
  The contracts of From and New: a tree that holds these nodes, if they may be held.
-/
namespace Go.Proofs.YtippbjpodnnhiaaDoor.Kg
open Go.RowKit
variable {ci : Ciph}
attribute [local go_sem ↓] Go.wp_at_zero Go.wp_at_succ
/-- The leaf behind the last one. -/
def endL : Int → List Nd → Int
  | e, [] => e
  | _, x :: l => endL (x.a + manyI x.d) l
theorem endL_snoc : ∀ (e : Int) (a : List Nd) (x : Nd), endL e (a ++ [x]) = x.a + manyI x.d
  | _, [], _ => rfl
  | _, y :: a, x => endL_snoc (y.a + manyI y.d) a x
theorem okS_snoc : ∀ (e : Int) (a : List Nd) (x : Nd), okS e (a ++ [x]) ↔ okS e a ∧ okH x ∧ endL e a ≤ x.a
  | e, [], x => by simp [okS, endL]
  | e, y :: a, x => by
    have h := okS_snoc (y.a + manyI y.d) a x
    rw [List.cons_append, okS, okS, endL, h]
    constructor
    · rintro ⟨h1, h2, h3, h4⟩; exact ⟨⟨h1, h2, h3⟩, h4⟩
    · rintro ⟨⟨h1, h2, h3⟩, h4⟩; exact ⟨h1, h2, h3, h4⟩
theorem endL_bd : ∀ {e : Int} {a : List Nd}, okS e a → e ≤ 131072 → e ≤ endL e a ∧ endL e a ≤ 131072
  | e, [], _, h => ⟨Int.le_refl _, h⟩
  | e, x :: a, h, he => by
    have := endL_bd h.2.2 h.1.2.2.2.2.1
    have hm := h.1.many
    have := h.2.1
    rw [endL]; omega
theorem okS_pre {e : Int} {l : List Nd} (h : okS e l) (k : Nat) : okS e (l.take k) := by
  have e1 := List.take_append_drop k l
  rw [← e1] at h
  exact (okS_split h).1
theorem okS_not_next {l : List Nd} {k : Nat} (hk : k < l.length) (h : ¬ (okH l[k] ∧ endL 0 (l.take k) ≤ (l[k]).a)) : ¬ okS 0 l := fun hl => by
  have h1 := okS_pre hl (k + 1)
  rw [List.take_succ_eq_append_getElem hk, okS_snoc] at h1
  exact h h1.2
/-- What From answers. -/
def RetFrom (ci : Ciph) (l : List Nd) (w : World) (e : Ending) (w' : World) : Prop :=
  ((okS 0 l ∧ ∃ g F, e = .returned (.tuple #[.pointer (some ⟨g, 0, none⟩), .int .i64 0]) ∧ Tr ci w' g l F ∧ ∀ k, F k → w.heap.size ≤ k) ∨
   (¬ okS 0 l ∧ e = .returned (.tuple #[.pointer none, .int .i64 3]))) ∧ Below w.heap.size w w'
theorem tr_new {w W : World} {A : Option Addr} {n c : Nat} {l : List Nd} {base : Nat} (ho : w.ownsRow base 53 34 (.slice A n c) n (nvs l)) (hl : l.length = n) (hok : okS 0 l) (hbw : Below base W w) (hbase : base = W.heap.size) :
    ∃ F, Tr ci (w.alloc (.cells #[ci.v, .slice A n c] 58)) w.heap.size l F ∧ ∀ k, F k → base ≤ k := by
  have hlo := own_loN ho
  refine ⟨fun k => k = w.heap.size ∨ (Value.slice A n c).ownBlock = some k, ⟨A, n, c, ⟨heap_alloc_new _ _, own_moreN (own_belowN ho ((Below.refl _ _).alloc (Nat.le_refl _) _)) (Nat.zero_le _), hl, hok, fun h => by have := (hlo _ h).2; omega⟩, .inl rfl, fun k hk => .inr hk, fun k hk => ?_⟩, fun k hk => ?_⟩
  · rcases hk with rfl | hk
    · simp
    · have := (hlo k hk).2; simp; omega
  · rcases hk with rfl | hk
    · rw [hbase]; exact hbw.size
    · exact (hlo k hk).1
set_option maxRecDepth 100000 in
set_option maxHeartbeats 1600000 in
theorem from_any {B : Nat} (A : Option Addr) (n c : Nat) (l : List Nd) (w : World) (hl : l.length = n) (h3 : ∀ x ∈ l, x.s.length = 32) (ha : ∀ x ∈ l, 0 ≤ x.a) (hB : B ≤ w.heap.size) (hr : Rd B w A (nvs l)) (hn : n ≤ 1000000) :
    Calls Tryd.prog 10 #[ci.v, .slice A n c] w (RetFrom ci l w) := by
  obtain ⟨cz, hcz⟩ : ∃ cz, cz = ndC zeroNd := ⟨_, rfl⟩
  have hzh : ∀ W, (zeroValue 53).run Tryd.prog W = .ok (.agg cz) W := fun _ => by rw [hcz]; kernel_rfl
  have ZH : Hid (cz.size = 34) := by show _ = _; rw [hcz]; exact ndC_size rfl
  have HR := Lib.hid (hr.more hB)
  have HL := Lib.hid hl
  have H3 := Lib.hid h3
  have HA := Lib.hid ha
  clear hl h3 ha hB hr hcz
  unfold Ciph.v
  go_enter Tryd.func10, Tryd.ntmps10
  go_wp2_with fail
  go_loopw [6, 8, 13] (fun o _ i wr => ∃ k : Nat, k ≤ n ∧ i = .int .i64 k ∧ o = .int .u64 (endL 0 (l.take k)) ∧ Hid (okS 0 (l.take k)) ∧ Below w.heap.size w wr) (fun _ _ i _ => n - (intOf i).toNat)
  case atStart => exact ⟨0, by omega, rfl, rfl, trivial, Below.refl _ _⟩
  case round =>
    obtain ⟨k, hk, rfl, rfl, HOK, hbw⟩ := hrel
    by_cases hlt : k < n
    · have hkl : k < l.length := by rw [HL.out]; exact hlt
      obtain ⟨ad, hA, hbl, hcell⟩ := rd_node (HR.out.below hbw) H3.out hkl
      subst hA
      obtain ⟨x, hxe⟩ : ∃ x, x = l[k] := ⟨_, rfl⟩
      have hx3 : x.s.length = 32 := by rw [hxe]; exact H3.out _ (List.getElem_mem hkl)
      have hxa : 0 ≤ x.a := by rw [hxe]; exact HA.out _ (List.getElem_mem hkl)
      have hnot := okS_not_next hkl
      have hsn : l.take (k + 1) = l.take k ++ [x] := by rw [hxe]; exact List.take_succ_eq_append_getElem hkl
      rw [← hxe] at hcell hnot
      obtain ⟨C, hC⟩ : ∃ C, C = endL 0 (l.take k) := ⟨_, rfl⟩
      have hCb := endL_bd HOK.out (by omega)
      rw [← hC] at hnot hCb ⊢
      have hnb := nodeB_iff hxa hx3
      have HCE := Lib.hid hcell
      have HI : Hid ((Tryd.prog.info? 53).map (·.size) = some (ndV x).length) := by rw [ndV_length hx3]; exact info_held
      have HIC : Hid ((Tryd.prog.info? 53).map (·.size) = some (ndC x).size) := by rw [ndC_size hx3]; exact info_held
      have HX3 := Lib.hid hx3
      have HXA := Lib.hid hxa
      have HNB := Lib.hid hnb
      have HNT := Lib.hid hnot
      have HSN := Lib.hid hsn
      have HBW := Lib.hid hbw
      have HCC := Lib.hid hC
      have k0 : (0 : Int) ≤ (k : Int) := by omega
      have k1 : (k : Int) < (n : Int) := by omega
      have ek : IntKind.i64.wrap ((k : Int) + 1) = ((k + 1 : Nat) : Int) := by rw [IntWalk.i64_in _ (by omega)]; omega
      clear hcell hxe hx3 hxa hnot hsn hC hbw hnb
      go_wp2_with (first
        | (refine wpList_load_at rfl 53 (.tmp 15) rfl (ad.add (k * 34)) rfl HCE.out Tryd.underlying53 rfl HI.out ?_
           change wpList _ _ _ _ (Act.put _ _ (.agg (ndC x))) _)
        | (refine wpList_store_row rfl 53 (.tmp 8) (.tmp 16) rfl wr.heap.size (ndC x) rfl rfl 53 cz (heap_alloc_new _ _) HIC.out (by rw [ndC_size HX3.out, ZH.out]) (ndC_one _) ?_
           generalize hwx : World.setRow _ _ _ = wx
           have E1 := Lib.hid (show Blk wx wr.heap.size (ndC x) 53 by rw [← hwx]; exact setRow_heap _ _ _ _ _ _ (heap_alloc_new _ _))
           have EB := Lib.hid (show Below w.heap.size w wx by rw [← hwx]; exact below_setRow (HBW.out.alloc HBW.out.size _) HBW.out.size _)
           clear hwx)
        | (refine wpList_load_row rfl 53 (.tmp 8) rfl wr.heap.size rfl 53 (ndC x) (0, 0) _ E1.out Tryd.underlying53 rfl HIC.out ?_))
      refine (isNode_any x HXA.out _).mono ?_
      rintro e w2 ⟨rfl, bw⟩
      have D1 := Lib.hid (E1.out.below bw)
      have DB := Lib.hid (EB.out.trans (bw.mono EB.out.size))
      have c0 := ndt_d D1.out
      have c1 := ndt_a D1.out
      clear bw E1 EB
      by_cases hnb : nodeB x = true
      · have hox := HNB.out.1 hnb
        rw [hnb]
        by_cases hlt' : x.a < C
        · have hd : decide (x.a < C) = true := decide_eq_true hlt'
          have HNO := Lib.hid (HNT.out (by rintro ⟨_, h⟩; omega))
          clear hnb hlt'
          go_wp2_with fail
          go_ret2
          exact ⟨.inr ⟨HNO.out, rfl⟩, DB.out⟩
        · have hd : decide (x.a < C) = false := decide_eq_false hlt'
          obtain ⟨M, hM⟩ : ∃ M, M = manyI x.d := ⟨_, rfl⟩
          have HQ := Lib.hid (show ∀ W, Calls Tryd.prog 26 #[.int .i64 x.d] W (RetQ (.int .u64 M) W) from fun W => by rw [hM]; exact leaves_q x.d hox.1 hox.2.1 W)
          have hmm := hox.many
          have hx5 := hox.2.2.2.2.1
          rw [← hM] at hmm hx5
          have ea : IntKind.u64.wrap (x.a + M) = x.a + M := IntWalk.u64_in _ (by have := HXA.out; omega)
          have HOK2 := Lib.hid (show okS 0 (l.take (k + 1)) by rw [HSN.out, okS_snoc]; exact ⟨HOK.out, hox, by rw [← HCC.out]; omega⟩)
          have HEN := Lib.hid (show endL 0 (l.take (k + 1)) = x.a + M by rw [HSN.out, endL_snoc, hM])
          clear hnb hlt' hox hM hmm hx5
          go_wp2_with fail
          go_quiet ((go_at_call 26; exact RetQ.quiet (HQ.out _)))
          go_wp2_with fail
          go_roundw
          case rel => exact ⟨k + 1, by omega, by go_num, by rw [HEN.out], HOK2, below_drewN' DB.out _⟩
          case measure => simp [intOf]; omega
      · have hnb' : nodeB x = false := by simpa using hnb
        have HNO := Lib.hid (HNT.out (by rintro ⟨h, _⟩; exact hnb (HNB.out.2 h)))
        rw [hnb']
        clear hnb hnb'
        go_wp2_with fail
        go_ret2
        exact ⟨.inr ⟨HNO.out, rfl⟩, DB.out⟩
    · obtain rfl : k = n := by omega
      have hok : okS 0 l := by have := HOK.out; rwa [List.take_of_length_le (by rw [HL.out]; exact Nat.le_refl _)] at this
      have HBW := Lib.hid hbw
      have HK := Lib.hid hok
      clear hbw hok
      go_wp2_with fail
      refine (sclone_any A k c l _ HL.out H3.out HBW.out.size (HR.out.below HBW.out) hn).mono ?_
      rintro e w2 ⟨A2, n2, c2, rfl, ho, bw⟩
      have HO := Lib.hid ho
      have HB := Lib.hid bw
      clear ho bw
      go_wp2_with fail
      go_ret2
      have hn2 : k = n2 := by
        have h1 := HO.out.1
        rw [nvs_length H3.out, HL.out] at h1; omega
      subst hn2
      obtain ⟨F, hF, hlo⟩ := tr_new (ci := ci) HO.out HL.out HK.out HB.out rfl
      have hs := HBW.out.size
      exact ⟨.inl ⟨HK.out, _, F, rfl, hF, fun q hq => Nat.le_trans hs (hlo q hq)⟩, (HBW.out.trans (HB.out.mono hs)).alloc (Nat.le_trans hs HB.out.size) _⟩
theorem from_nil (v : Value) (w : World) : Calls Tryd.prog 10 #[.nilIface, v] w (fun e w' => e = .returned (.tuple #[.pointer none, .int .i64 1]) ∧ w' = w) := by
  go_enter Tryd.func10, Tryd.ntmps10
  go_wp2_with fail
  go_ret2
  exact ⟨rfl, rfl⟩
set_option maxRecDepth 100000 in
theorem build_seed (s : List UInt8) (hs : s.length = 32) (W : World) : (Instr.build 53 #[(2, .agg (bva s))]).run Tryd.prog W = .ok (.agg (ndC ⟨0, 0, s⟩)) W := by
  have e : Tryd.prog.built 53 [(2, .agg (bva s))] = Instr.fill places3 (ndC zeroNd) [(2, .agg (bva s))] := by kernel_rfl
  refine run_build W 53 _ _ ?_
  show Tryd.prog.built 53 [(2, .agg (bva s))] = _
  rw [e]
  have s0 : (ndC zeroNd).size = 34 := ndC_size rfl
  have c3 : (Value.agg (bva s)).cells = bva s := rfl
  have l3 : (bva s).toList.length = 32 := by rw [Array.length_toList, bva_size, hs]
  obtain ⟨z3, f3⟩ := Great.foldl_set 2 (bva s).toList 0 (ndC zeroNd)
  generalize hC : ((bva s).toList.zipIdx 0).foldl (fun cs (x : Value × Nat) => cs.setIfInBounds (2 + x.2) x.1) (ndC zeroNd) = C at z3 f3
  rw [fill_step places3 (off := 2) (size := 32) rfl _ (by rw [c3, bva_size, hs]) _ (by rw [s0]; omega), c3, hC, Instr.fill]
  congr 1
  have hL : ∀ i : Nat, (ndC ⟨0, 0, s⟩)[i]? = (Value.int .i64 0 :: Value.int .u64 0 :: bv s)[i]? := fun i => by rw [ndC, List.getElem?_toArray]; rfl
  have hZ : ∀ i : Nat, (ndC zeroNd)[i]? = (Value.int .i64 0 :: Value.int .u64 0 :: bv zeroNd.s)[i]? := fun i => by rw [ndC, List.getElem?_toArray]; rfl
  apply Array.ext_getElem?
  intro j
  rw [f3 j, s0, l3, hL, hZ]
  match j with
  | 0 => simp
  | 1 => simp
  | j + 2 =>
    by_cases h3 : j < 32
    · rw [if_pos (by omega), List.getElem?_cons_succ, List.getElem?_cons_succ]
      simp [bva]
    · rw [if_neg (by omega), List.getElem?_eq_none (by simp [bv_length, zeroNd]; omega), List.getElem?_eq_none (by simp [bv_length, hs]; omega)]
/-- What New answers. -/
def RetNew (ci : Ciph) (l : List Nd) (w : World) (e : Ending) (w' : World) : Prop :=
  (∃ g F, e = .returned (.pointer (some ⟨g, 0, none⟩)) ∧ Tr ci w' g l F ∧ ∀ k, F k → w.heap.size ≤ k) ∧ Below w.heap.size w w'
theorem okS_root {s : List UInt8} (hs : s.length = 32) : okS 0 [⟨0, 0, s⟩] := ⟨⟨Int.le_refl 0, by show (0 : Int) ≤ 17; omega, Int.le_refl 0, by show (0 : Int) % manyI 0 = 0; decide, by show (0 : Int) + manyI 0 ≤ 131072; decide, hs⟩, Int.le_refl 0, trivial⟩
set_option maxRecDepth 100000 in
set_option maxHeartbeats 800000 in
theorem new_any (s : List UInt8) (hs : s.length = 32) (w : World) : Calls Tryd.prog 5 #[ci.v, .agg (bva s)] w (RetNew ci [⟨0, 0, s⟩] w) := by
  have HK : Hid ((Tryd.prog.info? 23).map (·.size) = some (bva s).size) := by rw [bva_size, hs]; exact info_keyL
  have B1 := Lib.hid (show Blk (w.alloc (.cells (bva s) 23)) w.heap.size (bva s) 23 from heap_alloc_new _ _)
  have BB := Lib.hid (show Below w.heap.size w (w.alloc (.cells (bva s) 23)) from (Below.refl _ _).alloc (Nat.le_refl _) _)
  have HS := Lib.hid hs
  obtain ⟨x, hx⟩ : ∃ x : Nd, x = ⟨0, 0, s⟩ := ⟨_, rfl⟩
  have hxs : x.s.length = 32 := by rw [hx]; exact hs
  have HBS := Lib.hid (show ∀ W, (Instr.build 53 #[(2, .agg (bva s))]).run Tryd.prog W = .ok (.agg (ndC x)) W from fun W => by rw [hx]; exact build_seed s hs W)
  have HXS := Lib.hid hxs
  have HX := Lib.hid hx
  obtain ⟨ie, hie, hz0, hz1, hz2⟩ := info_parts info_heldW
  clear hs hx hxs
  unfold Ciph.v
  go_enter Tryd.func5, Tryd.ntmps5
  go_wp2_with (first
    | (refine wpList_load_row rfl 23 (.tmp 3) rfl w.heap.size rfl 23 (bva s) (0, 0) _ B1.out Tryd.underlying23 rfl HK.out ?_)
    | (refine wpList_build rfl 53 #[(2, .tmp 9)] rfl (v := .agg (ndC x)) ?hbld ?_; case hbld => (simp only [List.map_toArray, List.map_cons, List.map_nil]; show (Instr.build 53 #[(2, .agg (bva s))]).run Tryd.prog _ = _; exact HBS.out _))
    | (refine wpList_buildSlice rfl 38 53 1 #[(0, .tmp 10)] rfl (ndC x) ie _ Tryd.underlying38 hie hz0 (by rw [hz1]; omega) (by rw [hz1]; omega) (by rw [hz1]; simp only [List.map_toArray, List.map_cons, List.map_nil]; exact one_fill x HXS.out) ?_))
  have hw2 : Below w.heap.size w ((w.alloc (.cells (bva s) 23)).alloc (.cells (ndC x) 53)) := BB.out.alloc BB.out.size _
  have hrd : Rd ((w.alloc (.cells (bva s) 23)).alloc (.cells (ndC x) 53)).heap.size ((w.alloc (.cells (bva s) 23)).alloc (.cells (ndC x) 53)) (some ⟨w.heap.size + 1, 0, none⟩) (nvs [x]) := by
    rw [nvs, nvs, List.append_nil]
    exact rd_ndC (heap_alloc2_new _ _ _)
  have HW := Lib.hid hw2
  have HR := Lib.hid hrd
  have HRO := Lib.hid (show okS 0 [x] by rw [HX.out]; exact okS_root HS.out)
  clear hw2 hrd
  refine (from_any (some ⟨w.heap.size + 1, 0, none⟩) 1 1 [x] _ rfl (fun y hy => by rw [List.mem_singleton] at hy; rw [hy]; exact HXS.out) (fun y hy => by rw [List.mem_singleton] at hy; rw [hy, HX.out]; exact Int.le_refl 0) (Nat.le_refl _) HR.out (by omega)).mono ?_
  rintro e w2 ⟨⟨_, g, F, rfl, ht, hF⟩ | ⟨hno, _⟩, bw⟩
  · have HT := Lib.hid ht
    have HF := Lib.hid hF
    have HB := Lib.hid bw
    clear ht hF bw
    go_wp2_with fail
    go_ret
    rw [← HX.out]
    exact ⟨⟨g, F, rfl, HT.out, fun k hk => Nat.le_trans HW.out.size (HF.out k hk)⟩, HW.out.trans (HB.out.mono HW.out.size)⟩
  · exact absurd HRO.out hno
set_option maxRecDepth 100000 in
set_option maxHeartbeats 800000 in
theorem new_nil (s : List UInt8) (hs : s.length = 32) (w : World) : Calls Tryd.prog 5 #[.nilIface, .agg (bva s)] w (RetB (.pointer none) w) := by
  have HK : Hid ((Tryd.prog.info? 23).map (·.size) = some (bva s).size) := by rw [bva_size, hs]; exact info_keyL
  have B1 := Lib.hid (show Blk (w.alloc (.cells (bva s) 23)) w.heap.size (bva s) 23 from heap_alloc_new _ _)
  have BB := Lib.hid (show Below w.heap.size w (w.alloc (.cells (bva s) 23)) from (Below.refl _ _).alloc (Nat.le_refl _) _)
  have HS := Lib.hid hs
  obtain ⟨x, hx⟩ : ∃ x : Nd, x = ⟨0, 0, s⟩ := ⟨_, rfl⟩
  have hxs : x.s.length = 32 := by rw [hx]; exact hs
  have HBS := Lib.hid (show ∀ W, (Instr.build 53 #[(2, .agg (bva s))]).run Tryd.prog W = .ok (.agg (ndC x)) W from fun W => by rw [hx]; exact build_seed s hs W)
  have HXS := Lib.hid hxs
  have HX := Lib.hid hx
  obtain ⟨ie, hie, hz0, hz1, hz2⟩ := info_parts info_heldW
  clear hs hx hxs
  go_enter Tryd.func5, Tryd.ntmps5
  go_wp2_with (first
    | (refine wpList_load_row rfl 23 (.tmp 3) rfl w.heap.size rfl 23 (bva s) (0, 0) _ B1.out Tryd.underlying23 rfl HK.out ?_)
    | (refine wpList_build rfl 53 #[(2, .tmp 9)] rfl (v := .agg (ndC x)) ?hbld ?_; case hbld => (simp only [List.map_toArray, List.map_cons, List.map_nil]; show (Instr.build 53 #[(2, .agg (bva s))]).run Tryd.prog _ = _; exact HBS.out _))
    | (refine wpList_buildSlice rfl 38 53 1 #[(0, .tmp 10)] rfl (ndC x) ie _ Tryd.underlying38 hie hz0 (by rw [hz1]; omega) (by rw [hz1]; omega) (by rw [hz1]; simp only [List.map_toArray, List.map_cons, List.map_nil]; exact one_fill x HXS.out) ?_))
  have HW := Lib.hid (show Below w.heap.size w ((w.alloc (.cells (bva s) 23)).alloc (.cells (ndC x) 53)) from BB.out.alloc BB.out.size _)
  refine (from_nil _ _).mono ?_
  rintro e w2 ⟨rfl, rfl⟩
  go_wp2_with fail
  go_ret
  exact ⟨rfl, HW.out⟩
end Go.Proofs.YtippbjpodnnhiaaDoor.Kg
/-
  The bytes of nodes, and the nodes of bytes: no program.
-/
namespace Go.Proofs.YtippbjpodnnhiaaDoor.Kc
open Go.RowKit Kg
/-- The byte of a number. -/
def byteI (z : Int) : UInt8 := UInt8.ofNat z.toNat
theorem byteI_val {z : Int} (h0 : 0 ≤ z) (h1 : z < 256) : ((byteI z).toNat : Int) = z := by
  unfold byteI; rw [UInt8.toNat_ofNat']; omega
theorem byteI_of (b : UInt8) : byteI (b.toNat : Int) = b := by
  unfold byteI; simp
/-- A node's bytes. -/
def nodeY (x : Nd) : List UInt8 := byteI x.d :: byteI (x.a / 65536) :: byteI (x.a / 256 % 256) :: byteI (x.a % 256) :: x.s
theorem nodeY_length {x : Nd} (h : x.s.length = 32) : (nodeY x).length = 36 := by simp [nodeY, h]
def encN (l : List Nd) : List UInt8 := l.flatMap nodeY
theorem encN_nil : encN [] = [] := rfl
theorem encN_cons (x : Nd) (l : List Nd) : encN (x :: l) = nodeY x ++ encN l := by simp [encN]
theorem encN_append (a b : List Nd) : encN (a ++ b) = encN a ++ encN b := by simp [encN]
theorem encN_length : ∀ {l : List Nd}, (∀ x ∈ l, x.s.length = 32) → (encN l).length = 36 * l.length
  | [], _ => rfl
  | x :: l, h => by
    rw [encN_cons, List.length_append, nodeY_length (h x (by simp)), encN_length (fun y hy => h y (by simp [hy])), List.length_cons]; omega
theorem encN_snoc (l : List Nd) {k : Nat} (h : k < l.length) : encN (l.take (k + 1)) = encN (l.take k) ++ nodeY l[k] := by
  rw [List.take_succ_eq_append_getElem h, encN_append, encN_cons, encN_nil, List.append_nil]
/-- The bytes of nodes. -/
def encB (l : List Nd) : List UInt8 := byteI ((l.length : Int) / 256) :: byteI ((l.length : Int) % 256) :: encN l
theorem encB_length {l : List Nd} (h : ∀ x ∈ l, x.s.length = 32) : (encB l).length = 2 + 36 * l.length := by
  simp [encB, encN_length h]; omega
/-- A number of three bytes, the highest first. -/
def atY (a b c : UInt8) : Int := (a.toNat : Int) * 65536 + (b.toNat : Int) * 256 + (c.toNat : Int)
/-- The node of 36 bytes. -/
def ndY (b : List UInt8) : Nd := ⟨((b.getD 0 0).toNat : Int), atY (b.getD 1 0) (b.getD 2 0) (b.getD 3 0), (b.drop 4).take 32⟩
/-- The nodes of so many times 36 bytes. -/
def decN : Nat → List UInt8 → List Nd
  | 0, _ => []
  | n + 1, b => ndY b :: decN n (b.drop 36)
theorem decN_length : ∀ (n : Nat) (b : List UInt8), (decN n b).length = n
  | 0, _ => rfl
  | n + 1, b => by rw [decN, List.length_cons, decN_length n]
/-- What a node may have, to have bytes of its own. -/
def fits (x : Nd) : Prop := 0 ≤ x.d ∧ x.d < 256 ∧ 0 ≤ x.a ∧ x.a < 16777216 ∧ x.s.length = 32
theorem okH_fits {x : Nd} (h : okH x) : fits x := by
  have := h.many
  exact ⟨h.1, by have := h.2.1; omega, h.2.2.1, by have := h.2.2.2.2.1; omega, h.2.2.2.2.2⟩
theorem ndY_nodeY {x : Nd} (h : fits x) (r : List UInt8) : ndY (nodeY x ++ r) = x := by
  obtain ⟨h0, h1, h2, h3, h4⟩ := h
  have e0 : ((byteI x.d).toNat : Int) = x.d := byteI_val h0 h1
  have e1 : ((byteI (x.a / 65536)).toNat : Int) = x.a / 65536 := byteI_val (by omega) (by omega)
  have e2 : ((byteI (x.a / 256 % 256)).toNat : Int) = x.a / 256 % 256 := byteI_val (by omega) (by omega)
  have e3 : ((byteI (x.a % 256)).toNat : Int) = x.a % 256 := byteI_val (by omega) (by omega)
  have e4 : ((nodeY x ++ r).drop 4).take 32 = x.s := by
    simp only [nodeY, List.cons_append, List.drop_succ_cons, List.drop_zero]
    rw [← h4]; exact List.take_left' rfl
  have e5 : atY (byteI (x.a / 65536)) (byteI (x.a / 256 % 256)) (byteI (x.a % 256)) = x.a := by
    unfold atY; rw [e1, e2, e3]; omega
  unfold ndY
  rw [e4]
  simp only [nodeY, List.cons_append, List.getD_cons_zero, List.getD_cons_succ, e0, e5]
theorem ndY_fits {b : List UInt8} (h : 36 ≤ b.length) : fits (ndY b) := by
  have hb : ∀ x : UInt8, (x.toNat : Int) < 256 := fun x => by have := x.toNat_lt; omega
  refine ⟨by simp only [ndY]; omega, hb _, by simp only [ndY, atY]; omega, ?_, by simp only [ndY, List.length_take, List.length_drop]; omega⟩
  have h1 := hb (b.getD 1 0)
  have h2 := hb (b.getD 2 0)
  have h3 := hb (b.getD 3 0)
  simp only [ndY, atY]; omega
theorem nodeY_ndY {b : List UInt8} (h : 36 ≤ b.length) : nodeY (ndY b) = b.take 36 := by
  match b, h with
  | b0 :: b1 :: b2 :: b3 :: r, h =>
    have h1 : (b1.toNat : Int) < 256 := by have := b1.toNat_lt; omega
    have h2 : (b2.toNat : Int) < 256 := by have := b2.toNat_lt; omega
    have h3 : (b3.toNat : Int) < 256 := by have := b3.toNat_lt; omega
    have ea : atY b1 b2 b3 / 65536 = (b1.toNat : Int) := by unfold atY; omega
    have eb : atY b1 b2 b3 / 256 % 256 = (b2.toNat : Int) := by unfold atY; omega
    have ec : atY b1 b2 b3 % 256 = (b3.toNat : Int) := by unfold atY; omega
    unfold nodeY ndY
    simp only [List.getD_cons_zero, List.getD_cons_succ, List.drop_succ_cons, List.drop_zero, ea, eb, ec, byteI_of, List.take_succ_cons]
theorem decN_encN : ∀ {l : List Nd} (r : List UInt8), (∀ x ∈ l, fits x) → decN l.length (encN l ++ r) = l
  | [], _, _ => rfl
  | x :: l, r, h => by
    have hx := h x (by simp)
    have h36 := nodeY_length hx.2.2.2.2
    rw [List.length_cons, decN, encN_cons, List.append_assoc, ndY_nodeY hx, List.drop_left' h36, decN_encN r (fun y hy => h y (by simp [hy]))]
theorem decN_fits : ∀ (n : Nat) (b : List UInt8), b.length = 36 * n → ∀ x ∈ decN n b, fits x
  | 0, _, _, x, hx => by simp [decN] at hx
  | n + 1, b, h, x, hx => by
    rw [decN, List.mem_cons] at hx
    rcases hx with rfl | hx
    · exact ndY_fits (by omega)
    · exact decN_fits n (b.drop 36) (by rw [List.length_drop]; omega) x hx
theorem encN_decN : ∀ (n : Nat) (b : List UInt8), b.length = 36 * n → encN (decN n b) = b
  | 0, b, h => by
    have : b = [] := List.eq_nil_of_length_eq_zero (by omega)
    rw [this]; rfl
  | n + 1, b, h => by
    rw [decN, encN_cons, nodeY_ndY (by omega), encN_decN n (b.drop 36) (by rw [List.length_drop]; omega), List.take_append_drop]
theorem encN_inj {a b : List Nd} (ha : ∀ x ∈ a, fits x) (hb : ∀ x ∈ b, fits x) (h : encN a = encN b) : a = b := by
  have h1 := encN_length (fun x hx => (ha x hx).2.2.2.2)
  have h2 := encN_length (fun x hx => (hb x hx).2.2.2.2)
  have hl : a.length = b.length := by rw [h] at h1; omega
  have e1 := decN_encN [] ha
  have e2 := decN_encN [] hb
  rw [← e1, ← e2, h, hl]
theorem encB_inj {a b : List Nd} (ha : ∀ x ∈ a, fits x) (hb : ∀ x ∈ b, fits x) (h : encB a = encB b) : a = b := by
  unfold encB at h
  injection h with _ h
  injection h with _ h
  exact encN_inj ha hb h
/-- How many nodes the first two bytes tell. -/
def manyY (b : List UInt8) : Nat := (b.getD 0 0).toNat * 256 + (b.getD 1 0).toNat
/-- Are these the bytes of nodes that may be held? -/
def okY (b : List UInt8) : Prop := 2 ≤ b.length ∧ b.length = 2 + 36 * manyY b ∧ okS 0 (decN (manyY b) (b.drop 2))
theorem okS_fits {l : List Nd} (h : okS 0 l) : ∀ x ∈ l, fits x := fun x hx => okH_fits (okS_mem h x hx).1
theorem manyY_encB {l : List Nd} (h : l.length ≤ 65535) : manyY (encB l) = l.length := by
  have e0 : ((byteI ((l.length : Int) / 256)).toNat : Int) = (l.length : Int) / 256 := byteI_val (by omega) (by omega)
  have e1 : ((byteI ((l.length : Int) % 256)).toNat : Int) = (l.length : Int) % 256 := byteI_val (by omega) (by omega)
  unfold manyY encB
  simp only [List.getD_cons_zero, List.getD_cons_succ]
  omega
theorem encB_drop (l : List Nd) : (encB l).drop 2 = encN l := rfl
theorem dec_encB {l : List Nd} (h : okS 0 l) (hl : l.length ≤ 65535) : okY (encB l) ∧ decN (manyY (encB l)) ((encB l).drop 2) = l := by
  have hf := okS_fits h
  have e := decN_encN [] hf
  rw [List.append_nil] at e
  have e2 : decN (manyY (encB l)) ((encB l).drop 2) = l := by rw [manyY_encB hl, encB_drop, e]
  exact ⟨⟨by simp [encB], by rw [manyY_encB hl]; exact encB_length (fun x hx => (hf x hx).2.2.2.2), by rw [e2]; exact h⟩, e2⟩
/-- One spelling: bytes that are some nodes' are what those nodes come to. -/
theorem enc_decB {b : List UInt8} (h : okY b) : encB (decN (manyY b) (b.drop 2)) = b ∧ (decN (manyY b) (b.drop 2)).length ≤ 65535 := by
  obtain ⟨h1, h2, _⟩ := h
  obtain ⟨b0, b1, r, rfl⟩ : ∃ b0 b1 r, b = b0 :: b1 :: r := by
    cases b with
    | nil => simp at h1
    | cons b0 r => cases r with
      | nil => simp at h1
      | cons b1 r => exact ⟨b0, b1, r, rfl⟩
  have hm : manyY (b0 :: b1 :: r) = b0.toNat * 256 + b1.toNat := by simp [manyY]
  have l0 := b0.toNat_lt
  have l1 := b1.toNat_lt
  have hr : r.length = 36 * manyY (b0 :: b1 :: r) := by
    rw [List.length_cons, List.length_cons] at h2; omega
  refine ⟨?_, by rw [decN_length, hm]; omega⟩
  have hd : (b0 :: b1 :: r).drop 2 = r := by simp
  unfold encB
  rw [decN_length, hd, encN_decN _ _ hr, hm]
  have ea : ((b0.toNat * 256 + b1.toNat : Nat) : Int) / 256 = (b0.toNat : Int) := by omega
  have eb : ((b0.toNat * 256 + b1.toNat : Nat) : Int) % 256 = (b1.toNat : Int) := by omega
  rw [ea, eb, byteI_of, byteI_of]
end Go.Proofs.YtippbjpodnnhiaaDoor.Kc
/-
  What bytes of nodes tell, cut short or with more behind: no program, but for one lemma on a row's room.
-/
namespace Go.Proofs.YtippbjpodnnhiaaDoor.Kc
open Go.RowKit Kg
theorem cap_own {w : World} {base n c : Nat} {e : TypeId} {A : Option Addr} {xs : List Value} (h : w.ownsRow base e 1 (.slice A n c) n xs) : n ≤ c ∧ c ≤ maxLen := by
  rcases h.2 with ⟨h0, h1⟩ | ⟨_, _, _, h0, _, _, h1, h2, _⟩
  · injection h0 with _ _ h0; unfold maxLen; omega
  · injection h0 with _ _ h0; omega
theorem manyY_take {b : List UInt8} {j : Nat} (h : 2 ≤ j) : manyY (b.take j) = manyY b := by
  unfold manyY
  rw [List.getD_eq_getElem?_getD, List.getD_eq_getElem?_getD, List.getD_eq_getElem?_getD, List.getD_eq_getElem?_getD, List.getElem?_take, List.getElem?_take, if_pos (by omega), if_pos (by omega)]
theorem manyY_append {b c : List UInt8} (h : 2 ≤ b.length) : manyY (b ++ c) = manyY b := by
  unfold manyY
  rw [List.getD_eq_getElem?_getD, List.getD_eq_getElem?_getD, List.getD_eq_getElem?_getD, List.getD_eq_getElem?_getD, List.getElem?_append_left (by omega), List.getElem?_append_left (by omega)]
/-- Cut short it is none's. -/
theorem not_cut {b : List UInt8} (h : okY b) {j : Nat} (hj : j < b.length) : ¬ okY (b.take j) := fun ⟨h1, h2, _⟩ => by
  rw [List.length_take] at h1 h2
  rw [manyY_take (by omega)] at h2
  have := h.2.1
  omega
/-- With more behind it is none's. -/
theorem not_more {b c : List UInt8} (h : okY b) (hc : 0 < c.length) : ¬ okY (b ++ c) := fun ⟨_, h2, _⟩ => by
  rw [List.length_append, manyY_append h.1] at h2
  have := h.2.1
  omega
theorem okY_encB {l : List Nd} (h : okS 0 l) (hl : l.length ≤ 65535) : okY (encB l) := (dec_encB h hl).1
end Go.Proofs.YtippbjpodnnhiaaDoor.Kc
/-
  The contract of the law's plain: held nodes as the document's.
-/
namespace Go.Proofs.YtippbjpodnnhiaaDoor.Kc
open Go.RowKit Kg
attribute [local go_sem ↓] Go.wp_at_zero Go.wp_at_succ
theorem ndt_s {w : World} {g : Nat} {x : Nd} {t : TypeId} (h : Blk w g (ndC x) t) : ∀ j v, (bv x.s)[j]? = some v → w.cell? ((⟨g, 2, none⟩ : Addr).add j) = some v := fun j v hv => by
  have he : (⟨g, 2, none⟩ : Addr).add j = ⟨g, 2 + j, none⟩ := by simp [Addr.add]
  rw [he]
  rw [h.cell, ndC, List.getElem?_toArray, ndV, show 2 + j = j + 1 + 1 by omega, List.getElem?_cons_succ, List.getElem?_cons_succ]; exact hv
end Go.Proofs.YtippbjpodnnhiaaDoor.Kc
/-
  Bytes as a slice's elements, in the namespace of wire's texts.
-/
namespace Go.Proofs.YtippbjpodnnhiaaDoor.Wi
open Go.RowKit
theorem info_byte : (Tryd.prog.info? 5).map (fun i => (i.zero, i.size, i.bytes)) = some (some (.int .u8 0), 1, 1) := by kernel_rfl
theorem bytesElt : Elt Tryd.prog 34 5 (.int .u8 0) 1 := ⟨Tryd.underlying34, by kernel_rfl, rfl, by omega⟩
theorem bv_replicate (n : Nat) : bv (List.replicate n 0) = List.replicate n (.int .u8 0) := by simp [bv]
end Go.Proofs.YtippbjpodnnhiaaDoor.Wi
/-
  The contract of the reference's Decode: the nodes of bytes, or that they are none's.
-/
namespace Go.Proofs.YtippbjpodnnhiaaDoor.Kc
open Go.RowKit Kg
attribute [local go_sem ↓] Go.wp_at_zero Go.wp_at_succ
theorem Blk.setN {w : World} {g : Nat} {cs : Array Value} {A : TypeId} (h : Blk w g cs A) (k : Nat) (v : Value) : Blk (w.setCell ⟨g, k, none⟩ v) g (cs.setIfInBounds k v) A := heap_setCell_same _ _ _ _ _ _ h
theorem nd_set (d a : Int) (s : List UInt8) (q : Nat) (y : UInt8) : (ndC ⟨d, a, s⟩).setIfInBounds (2 + q) (.int .u8 (y.toNat : Int)) = ndC ⟨d, a, s.set q y⟩ := by
  simp only [ndC, List.setIfInBounds_toArray, ndV, show 2 + q = q + 1 + 1 by omega, List.set_cons_succ, bv, List.map_set]
/-- A seed of which the first bytes are laid. -/
def sd (s : List UInt8) (q : Nat) : List UInt8 := s.take q ++ List.replicate (32 - q) 0
theorem sd_length {s : List UInt8} (hs : s.length = 32) {q : Nat} (hq : q ≤ 32) : (sd s q).length = 32 := by
  rw [sd, List.length_append, List.length_take, List.length_replicate]; omega
theorem sd_set {s : List UInt8} {q : Nat} {y : UInt8} (hs : s.length = 32) (hq : q < 32) (hy : s[q]? = some y) : (sd s q).set q y = sd s (q + 1) := by
  have hl : (s.take q).length = q := by rw [List.length_take]; omega
  have ht : s.take (q + 1) = s.take q ++ [y] := by rw [List.take_add_one, hy]; rfl
  rw [sd, sd, List.set_append_right _ _ (by omega), hl, Nat.sub_self, show 32 - q = (32 - (q + 1)) + 1 by omega, List.replicate_succ, List.set_cons_zero, ht, List.append_assoc]
  rfl
theorem sd_all {s : List UInt8} (hs : s.length = 32) : sd s 32 = s := by rw [sd, List.take_of_length_le (by omega)]; simp
theorem decN_get : ∀ (n : Nat) (b : List UInt8) {k : Nat}, k < n → (decN n b)[k]? = some (ndY (b.drop (36 * k)))
  | n + 1, b, 0, _ => by rw [decN]; simp
  | n + 1, b, k + 1, h => by
    rw [decN, List.getElem?_cons_succ, decN_get n (b.drop 36) (by omega), List.drop_drop]
    congr 3; omega
end Go.Proofs.YtippbjpodnnhiaaDoor.Kc
/-
  The contract of wire's Put, in a namespace of its own: a number in so many bytes, the highest first, in new memory.
-/
namespace Go.Proofs.YtippbjpodnnhiaaDoor.Wi
open Go.RowKit


/-- n in size bytes, the highest first. -/
def putL (n size : Nat) : List UInt8 := (List.range size).map fun i => UInt8.ofNat (n / 2 ^ (8 * (size - 1 - i)) % 256)

theorem putL_length (n s : Nat) : (putL n s).length = s := by simp [putL]
theorem putL_get {n s k : Nat} (h : k < s) : (putL n s)[k]? = some (UInt8.ofNat (n / 2 ^ (8 * (s - 1 - k)) % 256)) := by
  simp [putL, h]
theorem put_made (n s : Nat) : (madeCells (Value.int IntKind.u8 0).cells (s * 1)).toList = bv ((putL n s).take 0 ++ List.replicate (s - 0) 0) := by
  have e : (Value.int IntKind.u8 0).cells = #[Value.int IntKind.u8 0] := rfl
  rw [e, toList_madeCells_one, List.take_zero, List.nil_append, bv_replicate]
  simp
theorem ofNat_byte (x : Nat) : ((UInt8.ofNat (x % 256)).toNat : Int) = ((x % 256 : Nat) : Int) := by simp
theorem put_set {n s k : Nat} (h : k < s) : (bv ((putL n s).take k ++ List.replicate (s - k) 0)).set k (.int .u8 ((n : Int) / 2 ^ (8 * (s - 1 - k)) % 256)) = bv ((putL n s).take (k + 1) ++ List.replicate (s - (k + 1)) 0) := by
  have hl : ((putL n s).take k).length = k := by simp [putL_length]; omega
  have e1 : List.replicate (s - k) (0 : UInt8) = 0 :: List.replicate (s - (k + 1)) 0 := by
    rw [← List.replicate_succ]; congr 1; omega
  have e2 : (putL n s).take (k + 1) = (putL n s).take k ++ [UInt8.ofNat (n / 2 ^ (8 * (s - 1 - k)) % 256)] := by
    rw [List.take_add_one, putL_get h]; rfl
  have e3 : (Value.int .u8 ((n : Int) / 2 ^ (8 * (s - 1 - k)) % 256)) = .int .u8 ((UInt8.ofNat (n / 2 ^ (8 * (s - 1 - k)) % 256)).toNat : Int) := by
    rw [ofNat_byte, Int.natCast_emod, Int.natCast_ediv, Int.natCast_pow]; rfl
  rw [e1, e2, e3, bv_append, List.set_append_right _ _ (by rw [bv_length]; omega), bv_length, hl, Nat.sub_self]
  simp [bv]
theorem put_cell {n s k : Nat} (h : k < s) : ∃ v, (bv ((putL n s).take k ++ List.replicate (s - k) 0))[k]? = some v := by
  have hl : k < ((putL n s).take k ++ List.replicate (s - k) (0 : UInt8)).length := by simp [putL_length]; omega
  exact ⟨_, bv_get hl⟩
theorem put_done (n s : Nat) : bv ((putL n s).take s ++ List.replicate (s - s) 0) = bv (putL n s) := by
  rw [List.take_of_length_le (by rw [putL_length]; exact Nat.le_refl _)]; simp

set_option maxRecDepth 100000 in
set_option maxHeartbeats 400000 in
theorem wput_in (n size : Int) (w : World) (h0 : 0 ≤ n) (h1 : n < 18446744073709551616) (hs0 : 1 ≤ size) (hs8 : size ≤ 8) :
    Calls Tryd.prog 19 #[.int .u64 n, .int .i64 size] w (RetRow 5 (bv (putL n.toNat size.toNat)) w) := by
  obtain ⟨s, rfl⟩ := Int.eq_ofNat_of_zero_le (by omega : 0 ≤ size)
  obtain ⟨N, rfl⟩ := Int.eq_ofNat_of_zero_le h0
  obtain ⟨i0, hi, hz0, hz1, hz2⟩ := info_parts info_byte
  rw [Int.toNat_natCast, Int.toNat_natCast]
  clear h1
  go_enter Tryd.func19, Tryd.ntmps19
  go_wp2_with (at_make; refine wpList_make_full _ rfl _ _ _ rfl w.heap.size 5 i0 _ 1 Tryd.underlying34 hi hz0 hz1 .i64 .i64 _ _ s rfl rfl rfl rfl ?_ ?_ ?_ ?_; (rw [hz2]; omega); (unfold maxLen; omega); (exact Nat.le_refl _); intro w1 hown hg)
  go_loopw [6, 17] (fun u i wr => ∃ k : Nat, k ≤ s ∧ i = .int .i64 k ∧ Below w.heap.size w wr ∧ wr.ownsRow w.heap.size 5 1 (.slice (some ⟨w.heap.size, 0, none⟩) s s) s (bv ((putL N s).take k ++ List.replicate (s - k) 0))) (fun _ i _ => s - (intOf i).toNat)
  case atStart => exact ⟨0, Nat.zero_le _, rfl, (Below.refl _ _).grown hg (Nat.le_refl _) (fun _ h => by cases h), by rw [← put_made]; exact hown⟩
  case round =>
    obtain ⟨k, hk, rfl, hb, how⟩ := hrel
    by_cases hlt : k < s
    · have hc := how.cellAt k (by omega)
      have hf := how.frozenAt k
      obtain ⟨v, hv⟩ := put_cell (n := N) hlt
      rw [hv] at hc
      have HS := Lib.hid (how.stored k (.int .u8 ((N : Int) / 2 ^ (8 * (s - 1 - k)) % 256))).1
      clear hv
      go_wp2
      go_roundw
      case rel => exact ⟨k + 1, by omega, by go_num, hb.setCell (Nat.le_refl _) _, by rw [← put_set hlt]; exact HS.out⟩
      case measure => simp [intOf]; omega
    · obtain rfl : k = s := by omega
      rw [put_done] at how
      go_wp2
      go_ret
      exact RetRow.mk rfl how hb

set_option maxRecDepth 100000 in
set_option maxHeartbeats 400000 in
theorem wput_out (n size : Int) (w : World) (hs : size < 1 ∨ 8 < size) :
    Calls Tryd.prog 19 #[.int .u64 n, .int .i64 size] w fun e w' => e = .returned (.slice none 0 0) ∧ w = w' := by
  rcases hs with hs | hs
  · go_enter Tryd.func19, Tryd.ntmps19
    go_wp2
    go_ret
    exact ⟨rfl, rfl⟩
  · have hs' : ¬ size < 1 := by omega
    go_enter Tryd.func19, Tryd.ntmps19
    go_wp2
    go_ret
    exact ⟨rfl, rfl⟩


/-- n told, whatever the size. -/
def putI (n size : Int) : List UInt8 := if 1 ≤ size ∧ size ≤ 8 then putL n.toNat size.toNat else []

set_option maxRecDepth 100000 in
set_option maxHeartbeats 400000 in
theorem wput_any (n size : Int) (w : World) (h0 : 0 ≤ n) (h1 : n < 18446744073709551616) :
    Calls Tryd.prog 19 #[.int .u64 n, .int .i64 size] w (RetRow 5 (bv (putI n size)) w) := by
  by_cases h : 1 ≤ size ∧ size ≤ 8
  · rw [putI, if_pos h]
    exact wput_in n size w h0 h1 h.1 h.2
  · rw [putI, if_neg h]
    refine (wput_out n size w (by omega)).mono ?_
    rintro e w' ⟨rfl, rfl⟩
    exact RetRow.mk rfl (World.ownsRow_nil _ _ _ _) (Below.refl _ _)

end Go.Proofs.YtippbjpodnnhiaaDoor.Wi
/-
  The contract of wire's Get, in a namespace of its own: the number that stands in 1 to 8 bytes.
-/
namespace Go.Proofs.YtippbjpodnnhiaaDoor.Wi
open Go.RowKit

/-- The number that stands in l. -/
def getL (l : List UInt8) : Nat := l.foldl (fun n c => n * 256 + c.toNat) 0

theorem getL_nil : getL [] = 0 := rfl
theorem getL_snoc (l : List UInt8) (c : UInt8) : getL (l ++ [c]) = getL l * 256 + c.toNat := by simp [getL, List.foldl_append]
theorem getL_step {l : List UInt8} {k : Nat} (h : k < l.length) : getL (l.take (k + 1)) = getL (l.take k) * 256 + l[k].toNat := by
  rw [List.take_succ_eq_append_getElem h, getL_snoc]
theorem getL_take {l : List UInt8} : ∀ k, k ≤ l.length → getL (l.take k) < 256 ^ k
  | 0, _ => by simp [getL]
  | k + 1, h => by
    have h1 := getL_take k (Nat.le_of_succ_le h)
    have hb : l[k].toNat < 256 := UInt8.toNat_lt _
    rw [getL_step h, Nat.pow_succ]
    omega
theorem getL_lt (l : List UInt8) : getL l < 256 ^ l.length := by
  have h := getL_take l.length (Nat.le_refl _)
  rwa [List.take_of_length_le (Nat.le_refl _)] at h
theorem getL_small {l : List UInt8} {k : Nat} (h : k < l.length) (h8 : l.length ≤ 8) : getL (l.take k) * 256 + 255 < 18446744073709551616 := by
  have h1 := getL_take k (Nat.le_of_lt h)
  have h2 : 256 ^ k ≤ 256 ^ 7 := Nat.pow_le_pow_right (by omega) (by omega)
  have h3 : 256 ^ 7 = 72057594037927936 := by decide
  omega
theorem or_byte (Z b : Nat) (hb : b < 256) : Z * 256 ||| b = Z * 256 + b := by
  have e : Z * 256 = Z <<< 8 := by rw [Nat.shiftLeft_eq]
  rw [e, ← Nat.shiftLeft_add_eq_or_of_lt hb]
theorem get_or {l : List UInt8} {k Z : Nat} (hZ : Z = getL (l.take k)) (h : k < l.length) (h8 : l.length ≤ 8) :
    bits BinOp.or IntKind.u64 (IntKind.u64.wrap ((Z : Int) * 256)) (IntKind.u64.wrap (l[k].toNat : Int)) = ((Z * 256 + l[k].toNat : Nat) : Int) := by
  have hs := getL_small h h8
  have hb : l[k].toNat < 256 := UInt8.toNat_lt _
  rw [← hZ] at hs
  have e1 : IntKind.u64.wrap ((Z : Int) * 256) = ((Z * 256 : Nat) : Int) := (IntWalk.u64_in ((Z : Int) * 256) (by omega)).trans (Int.natCast_mul Z 256).symm
  have e2 : IntKind.u64.wrap (l[k].toNat : Int) = (l[k].toNat : Int) := IntWalk.u64_in (l[k].toNat : Int) (by clear e1; omega)
  rw [e1, e2]
  clear e1 e2
  have g1 : Z * 256 < 18446744073709551616 := Nat.lt_of_le_of_lt (Nat.le_add_right _ _) hs
  have g2 : l[k].toNat < 18446744073709551616 := Nat.lt_trans hb (by decide)
  have e3 := u64_or_nat (Z * 256) l[k].toNat g1 g2
  clear g1 g2
  rw [e3, or_byte Z _ hb]
theorem get_all (l : List UInt8) : getL (l.take l.length) = getL l := by rw [List.take_of_length_le (Nat.le_refl _)]
theorem ret_get {z z' : Int} {b : Bool} (h : z = z') : Ending.returned (.tuple #[.int .u64 z, .bool b]) = .returned (.tuple #[.int .u64 z', .bool b]) := by rw [h]

set_option maxRecDepth 100000 in
set_option maxHeartbeats 400000 in
theorem wget_in {B : Nat} (A : Option Addr) (n c : Nat) (l : List UInt8) (w : World) (hn : l.length = n) (ha : Rd B w A (bv l)) (h1 : 1 ≤ n) (h8 : n ≤ 8) :
    Calls Tryd.prog 33 #[.slice A n c] w fun e w' => e = .returned (.tuple #[.int .u64 (getL l : Int), .bool true]) ∧ w = w' := by
  subst hn
  go_enter Tryd.func33, Tryd.ntmps33
  go_wp2
  go_loop [4, 6, 17] (fun m u i => ∃ k Z : Nat, k ≤ l.length ∧ i = .int .i64 k ∧ m = .int .u64 (Z : Int) ∧ Hid (Z = getL (l.take k))) (fun _ _ i => l.length - (intOf i).toNat)
  case atStart => exact ⟨0, 0, Nat.zero_le _, rfl, rfl, rfl⟩
  case round =>
    obtain ⟨k, Z, hk, rfl, rfl, HZ⟩ := hrel
    by_cases hlt : k < l.length
    · obtain ⟨ad, rfl, _, hc⟩ := ha.at_ hlt
      go_wp2
      go_round
      case rel => exact ⟨k + 1, Z * 256 + l[k].toNat, by omega, by go_num, int_eq (get_or HZ.out hlt h8), by show _ = _; rw [getL_step hlt, HZ.out]⟩
      case measure => simp [intOf]; omega
    · obtain rfl : k = l.length := by omega
      go_wp2
      go_ret2
      exact ⟨ret_get (by rw [HZ.out, get_all]), rfl⟩

set_option maxRecDepth 100000 in
set_option maxHeartbeats 400000 in
theorem wget_out (A : Option Addr) (n c : Nat) (w : World) (h : n < 1 ∨ 8 < n) (hm : n ≤ maxLen) :
    Calls Tryd.prog 33 #[.slice A n c] w fun e w' => e = .returned (.tuple #[.int .u64 0, .bool false]) ∧ w = w' := by
  unfold maxLen at hm
  rcases h with h | h
  · go_enter Tryd.func33, Tryd.ntmps33
    go_wp2
    go_ret2
    exact ⟨rfl, rfl⟩
  · have h' : ¬ n < 1 := by omega
    go_enter Tryd.func33, Tryd.ntmps33
    go_wp2
    go_ret2
    exact ⟨rfl, rfl⟩

/-- What Get tells of l: a number and whether there is one. -/
def getN (l : List UInt8) : Nat := if 1 ≤ l.length ∧ l.length ≤ 8 then getL l else 0
def getOk (l : List UInt8) : Bool := decide (1 ≤ l.length ∧ l.length ≤ 8)

theorem wget_any {B : Nat} (A : Option Addr) (n c : Nat) (l : List UInt8) (w : World) (hn : l.length = n) (ha : Rd B w A (bv l)) (hm : n ≤ maxLen) :
    Calls Tryd.prog 33 #[.slice A n c] w fun e w' => e = .returned (.tuple #[.int .u64 (getN l : Int), .bool (getOk l)]) ∧ w = w' := by
  by_cases h : 1 ≤ l.length ∧ l.length ≤ 8
  · rw [getN, if_pos h, show getOk l = true from decide_eq_true h]
    exact wget_in A n c l w hn ha (by omega) (by omega)
  · rw [getN, if_neg h, show getOk l = false from decide_eq_false h]
    exact wget_out A n c w (by omega) hm
end Go.Proofs.YtippbjpodnnhiaaDoor.Wi
