/-
  Texts of this seat, one behind the other: KcPlain, EqSelf, EqBytes, KgEqH, KcSame, ConvB, Open, KgOpen, OpenA, OpenI, CiLit, KcLit, KgPun.
-/
import Derived.ChangeKeysEq
import Derived.Test.YtippbjpodnnhiaaProg
import Derived.Laws.StructEq
import Derived.Laws.IdiomStrings
import Derived.Lib.Strings
import Derived.Deep.Slices
import Derived.OpenShut
import Derived.ProofKit
import Derived.Test.YtippbjpodnnhiaaRows
import Derived.Deep.RegionHeld
import Derived.Test.YtippbjpodnnhiaaMg5
/-
  The contract of the law's plain: held nodes as the document's.
-/
namespace Go.Proofs.Ytippbjpodnnhiaa.Kc
open Go.RowKit Kg
attribute [local go_sem ↓] Go.wp_at_zero Go.wp_at_succ
theorem ndt_s {w : World} {g : Nat} {x : Nd} {t : TypeId} (h : Blk w g (ndC x) t) : ∀ j v, (bv x.s)[j]? = some v → w.cell? ((⟨g, 2, none⟩ : Addr).add j) = some v := fun j v hv => by
  have he : (⟨g, 2, none⟩ : Addr).add j = ⟨g, 2 + j, none⟩ := by simp [Addr.add]
  rw [he]
  rw [h.cell, ndC, List.getElem?_toArray, ndV, show 2 + j = j + 1 + 1 by omega, List.getElem?_cons_succ, List.getElem?_cons_succ]; exact hv
set_option maxRecDepth 100000 in
set_option maxHeartbeats 3200000 in
theorem plain_any {B : Nat} (A : Option Addr) (n c : Nat) (l : List Nd) (w : World) (hl : l.length = n) (h3 : ∀ x ∈ l, x.s.length = 32) (hB : B ≤ w.heap.size) (hr : Rd B w A (nvs l)) (hn : n ≤ 1000000) :
    Calls Try.prog 15 #[.slice A n c] w (RetRowN 41 34 (nvs l) w) := by
  have HL := Lib.hid hl
  have HR := Lib.hid (hr.more hB)
  have H3 := Lib.hid h3
  clear hl hr h3 hB
  obtain ⟨ie, hie, hz0, hz1, hz2⟩ := info_parts info_nodeW
  obtain ⟨cz, hcz⟩ : ∃ cz, cz = ndC zeroNd := ⟨_, rfl⟩
  have hzh : ∀ W, (zeroValue 61).run Try.prog W = .ok (.agg cz) W := fun _ => by rw [hcz]; kernel_rfl
  have ZH : Hid (cz.size = 34) := by show _ = _; rw [hcz]; exact ndC_size rfl
  clear hcz
  go_enter Try.func15, Try.ntmps15
  go_wp2_with fail
  go_loopw [3, 5, 8] (fun o _ i wr => ∃ k A1 c1, k ≤ n ∧ i = .int .i64 (k : Nat) ∧ o = .slice A1 k c1 ∧ Below w.heap.size w wr ∧ wr.ownsRow w.heap.size 41 34 (.slice A1 k c1) k (nvs (l.take k))) (fun _ _ i _ => n - (intOf i).toNat)
  case atStart => exact ⟨0, none, 0, by omega, rfl, rfl, Below.refl _ _, World.ownsRow_nil _ _ _ _⟩
  case round =>
    obtain ⟨k, A1, c1, hk, rfl, rfl, hbw, how⟩ := hrel
    by_cases hlt : k < n
    · have hkl : k < l.length := by rw [HL.out]; exact hlt
      obtain ⟨ad, hA, hbl, hcell⟩ := rd_node (HR.out.below hbw) H3.out hkl
      subst hA
      obtain ⟨x, hxe⟩ : ∃ x, x = l[k] := ⟨_, rfl⟩
      have hs : x.s.length = 32 := by rw [hxe]; exact H3.out _ (List.getElem_mem hkl)
      have hsn := nvs_snoc l hkl
      rw [← hxe] at hsn hcell
      have HCE := Lib.hid hcell
      have HI : Hid ((Try.prog.info? 61).map (·.size) = some (ndV x).length) := by rw [ndV_length hs]; exact info_held
      have HIC : Hid ((Try.prog.info? 61).map (·.size) = some (ndC x).size) := by rw [ndC_size hs]; exact info_held
      have HIK : Hid ((Try.prog.info? 43).map (·.size) = some (bv x.s).length) := by rw [bv_length, hs]; exact info_keyL
      have HBN := Lib.hid (show ∀ W, (Instr.build 41 #[(0, .int .i64 x.d), (1, .int .u64 x.a), (2, .agg (bva x.s))]).run Try.prog W = .ok (.agg (ndC x)) W from fun W => build_node x hs W)
      have k0 : (0 : Int) ≤ (k : Int) := by omega
      have k1 : (k : Int) < (n : Int) := by omega
      have ek : IntKind.i64.wrap ((k : Int) + 1) = ((k + 1 : Nat) : Int) := by rw [IntWalk.i64_in _ (by omega)]; omega
      have HS := Lib.hid hs
      have HSN := Lib.hid hsn
      have HB := Lib.hid hbw
      have HO := Lib.hid how
      clear hcell hxe hs hsn hbw how
      go_wp2_with (first
        | (refine wpList_load_at rfl 61 (.tmp 10) rfl (ad.add (k * 34)) rfl HCE.out Try.underlying61 rfl HI.out ?_
           change wpList _ _ _ _ (Act.put _ _ (.agg (ndC x))) _)
        | (refine wpList_store_row rfl 61 (.tmp 5) (.tmp 11) rfl wr.heap.size (ndC x) rfl rfl 61 cz (heap_alloc_new _ _) HIC.out (by rw [ndC_size HS.out, ZH.out]) (ndC_one _) ?_
           generalize hwx : World.setRow _ _ _ = wx
           have e1 : Blk wx wr.heap.size (ndC x) 61 := by rw [← hwx]; exact setRow_heap _ _ _ _ _ _ (heap_alloc_new _ _)
           have eb : Below wr.heap.size wr wx := by rw [← hwx]; exact below_setRow ((Below.refl _ _).alloc (Nat.le_refl _) _) (Nat.le_refl _) _
           have EB := Lib.hid (HB.out.trans (eb.mono HB.out.size))
           have EO := Lib.hid (own_belowN HO.out eb)
           have c0 := ndt_d e1
           have c1' := ndt_a e1
           have E2 := Lib.hid (ndt_s e1)
           clear hwx e1 eb)
        | (refine wpList_load_at rfl 43 (.tmp 17) rfl ⟨wr.heap.size, 2, none⟩ rfl E2.out Try.underlying43 rfl HIK.out ?_
           change wpList _ _ _ _ (Act.put _ _ (.agg (bva x.s))) _)
        | (refine wpList_build rfl 41 #[(0, .tmp 14), (1, .tmp 16), (2, .tmp 18)] rfl (v := .agg (ndC x)) ?hbld ?_; case hbld => (simp only [List.map_toArray, List.map_cons, List.map_nil]; show (Instr.build 41 #[(0, .int .i64 x.d), (1, .int .u64 x.a), (2, .agg (bva x.s))]).run Try.prog _ = _; exact HBN.out _))
        | (refine wpList_buildSlice rfl 30 41 1 #[(0, .tmp 19)] rfl (ndC x) ie _ Try.underlying30 hie hz0 (by rw [hz1]; omega) (by rw [hz1]; omega) (by rw [hz1]; simp only [List.map_toArray, List.map_cons, List.map_nil]; exact one_fill x HS.out) ?_
           generalize hwy : World.alloc wx _ = wy
           have FR := Lib.hid (show Rd wy.heap.size wy (some ⟨wx.heap.size, 0, none⟩) (ndV x) by rw [← hwy]; exact rd_ndC (heap_alloc_new _ _))
           have FO := Lib.hid (show wy.ownsRow w.heap.size 41 34 (.slice A1 k c1) k (nvs (l.take k)) by rw [← hwy]; exact own_belowN EO.out ((Below.refl _ _).alloc (Nat.le_refl _) _))
           have FB := Lib.hid (show Below w.heap.size w wy by rw [← hwy]; exact EB.out.alloc EB.out.size _)
           clear hwy EB EO E2)
        | (at_builtin
           refine wpList_appN _ rfl (.tmp 12) (.tmp 20) 30 rfl nodesElt (base := w.heap.size) (v := .slice A1 k c1) rfl FO.out (m := 1) rfl FR.out (by rw [ndV_length HS.out]) (ndV_one _) (by omega) FB.out.size ?_
           intro A3 c3 w3 ho3 hg3 _
           have hb3 : Below w.heap.size w w3 := app_belowN FB.out FO.out hg3 (Nat.le_refl _) FB.out.size
           rw [← HSN.out] at ho3
           have O3 := Lib.hid ho3
           have B3 := Lib.hid hb3
           clear ho3 hg3 hb3 FO FR FB))
      go_roundw
      case rel => exact ⟨k + 1, A3, c3, by omega, by go_num, rfl, B3.out, O3.out⟩
      case measure => simp [intOf]; omega
    · obtain rfl : k = n := by omega
      go_wp2
      go_ret
      rw [List.take_of_length_le (by rw [HL.out]; exact Nat.le_refl _)] at how
      exact ⟨A1, k, c1, rfl, how, hbw⟩
end Go.Proofs.Ytippbjpodnnhiaa.Kc
/-
  An array of numbers is equal to itself, as Go compares.
-/
namespace Go.Proofs.Ytippbjpodnnhiaa
open Go.RowKit
section
variable {P : Program} (w : World)
theorem run_eqItems_self (d : Nat) {e : TypeId} {k : IntKind} (he : P.underlying e = some (.int k)) (xs : Array Value) (hx : ∀ i (h : i < xs.size), ∃ z, xs[i] = .int k z) :
    ∀ is : List Nat, (∀ i ∈ is, i < xs.size) → (Op.eqItems (d + 1) e 1 xs xs is).run P w = .ok true w
  | [], _ => by simp [Op.eqItems]
  | i :: is, h => by
    have hi := h i (by simp)
    obtain ⟨z, hz⟩ := hx i hi
    have hp : (part e xs (i * 1)).run P w = .ok (.int k z) w := run_part_plain w (by simp [Program.plainKey, he]) (by rw [Nat.mul_one, Array.getElem?_eq_getElem hi, hz])
    have hq : (Op.equalIn (d + 1) e (.int k z) (.int k z)).run P w = .ok true w := by rw [run_equalIn_int w d e k k z z he]; simp
    simp only [Op.eqItems, Sem.run_bind, hp, hq, Result.andThen_ok]
    simpa using run_eqItems_self d he xs hx is (fun j hj => h j (by simp [hj]))
theorem run_equal_self {t e n : Nat} {k : IntKind} {i : TypeInfo} (ht : P.underlying t = some (.array n e)) (he : P.underlying e = some (.int k)) (hi : P.info? e = some i) (hc : P.cellsOf e = 1) (xs : Array Value) (hn : xs.size = n)
    (hx : ∀ i (h : i < xs.size), ∃ z, xs[i] = .int k z) : (Op.equalIn 10000 t (.agg xs) (.agg xs)).run P w = .ok true w := by
  rw [show (10000 : Nat) = 9998 + 1 + 1 from rfl, run_equalIn_array w (9998 + 1) xs xs ht hi, hc, run_eqItems_self w 9998 he xs hx (List.range n) (fun j hj => by have := List.mem_range.1 hj; omega)]
end
end Go.Proofs.Ytippbjpodnnhiaa
/-
  Whether two arrays of bytes are the same, as Go compares.
-/
namespace Go.Proofs.Ytippbjpodnnhiaa
open Go.RowKit
section
variable {P : Program} (w : World)
theorem run_eqItems_bytes (d : Nat) {e : TypeId} (he : P.underlying e = some (.int .u8)) (a b : List UInt8) :
    ∀ is : List Nat, (∀ i ∈ is, i < a.length ∧ i < b.length) → (Op.eqItems (d + 1) e 1 (bva a) (bva b) is).run P w = .ok (is.all fun i => a.getD i 0 == b.getD i 0) w
  | [], _ => by simp [Op.eqItems]
  | i :: is, h => by
    obtain ⟨h1, h2⟩ := h i (by simp)
    have ih := run_eqItems_bytes d he a b is (fun j hj => h j (by simp [hj]))
    have hp : (part e (bva a) (i * 1)).run P w = .ok (.int .u8 ((a.getD i 0).toNat : Int)) w := run_part_plain w (by simp [Program.plainKey, he]) (by rw [Nat.mul_one]; exact bva_get h1)
    have hq : (part e (bva b) (i * 1)).run P w = .ok (.int .u8 ((b.getD i 0).toNat : Int)) w := run_part_plain w (by simp [Program.plainKey, he]) (by rw [Nat.mul_one]; exact bva_get h2)
    have hr : (Op.equalIn (d + 1) e (.int .u8 ((a.getD i 0).toNat : Int)) (.int .u8 ((b.getD i 0).toNat : Int))).run P w = .ok (a.getD i 0 == b.getD i 0) w := by
      rw [run_equalIn_int w d e .u8 .u8 _ _ he]
      congr 1
      by_cases hab : a.getD i 0 = b.getD i 0
      · rw [hab]; simp
      · have : ¬ (((a.getD i 0).toNat : Int) = ((b.getD i 0).toNat : Int)) := fun h => hab (UInt8.toNat_inj.1 (by omega))
        rw [beq_eq_false_iff_ne.2 hab]
        exact (by simpa using this)
    simp only [Op.eqItems, Sem.run_bind, hp, hq, hr, Result.andThen_ok]
    rw [List.all_cons]
    cases a.getD i 0 == b.getD i 0
    · simp
    · simpa using ih
theorem all_get (a b : List UInt8) (h : a.length = b.length) : ((List.range a.length).all fun i => a.getD i 0 == b.getD i 0) = decide (a = b) := by
  rw [Bool.eq_iff_iff, List.all_eq_true, decide_eq_true_iff]
  constructor
  · intro hh
    refine List.ext_getElem h fun i h1 h2 => ?_
    have := hh i (List.mem_range.2 h1)
    rw [beq_iff_eq, List.getD_eq_getElem?_getD, List.getD_eq_getElem?_getD, List.getElem?_eq_getElem h1, List.getElem?_eq_getElem h2] at this
    exact this
  · rintro rfl i _
    simp
theorem run_equal_bytes {t e n : Nat} {i : TypeInfo} (ht : P.underlying t = some (.array n e)) (he : P.underlying e = some (.int .u8)) (hi : P.info? e = some i) (hc : P.cellsOf e = 1) (a b : List UInt8) (ha : a.length = n) (hb : b.length = n) :
    (Op.equalIn 10000 t (.agg (bva a)) (.agg (bva b))).run P w = .ok (decide (a = b)) w := by
  rw [show (10000 : Nat) = 9998 + 1 + 1 from rfl, run_equalIn_array w (9998 + 1) (bva a) (bva b) ht hi, hc, run_eqItems_bytes w 9998 he a b (List.range n) (fun j hj => by have := List.mem_range.1 hj; omega), ← ha, all_get a b (by omega)]
end
end Go.Proofs.Ytippbjpodnnhiaa
/-
  Whether two nodes that are held are the same, as Go compares.
-/
namespace Go.Proofs.Ytippbjpodnnhiaa.Kg.H
open Go.RowKit
theorem run_equal_bytes_at {P : Program} (w : World) (d : Nat) {t e n : Nat} {i : TypeInfo} (ht : P.underlying t = some (.array n e)) (he : P.underlying e = some (.int .u8)) (hi : P.info? e = some i) (hc : P.cellsOf e = 1) (a b : List UInt8) (ha : a.length = n) (hb : b.length = n) :
    (Op.equalIn (d + 1 + 1) t (.agg (bva a)) (.agg (bva b))).run P w = .ok (decide (a = b)) w := by
  rw [run_equalIn_array w (d + 1) (bva a) (bva b) ht hi, hc, run_eqItems_bytes w d he a b (List.range n) (fun j hj => by have := List.mem_range.1 hj; omega), ← ha, all_get a b (by omega)]
theorem part_seed (x : Nd) (hs : x.s.length = 32) (w : World) : (part 43 (ndC x) 2).run Try.prog w = .ok (.agg (bva x.s)) w := by
  have hc : Try.prog.cellsOf 43 = 32 := by kernel_rfl
  have he : (ndC x).extract 2 (2 + 32) = bva x.s := by
    apply Array.ext'
    rw [Array.toList_extract]
    simp [ndC, ndV, bva, List.extract]
    rw [List.take_of_length_le (by rw [bv_length]; omega)]
  have : (part 43 (ndC x) 2).run Try.prog w = .ok (.agg ((ndC x).extract 2 (2 + Try.prog.cellsOf 43))) w := by
    simp [part, isAgg, run_underlying Try.underlying43, hc]
  rw [this, hc, he]
theorem part_d (x : Nd) (w : World) : (part 3 (ndC x) 0).run Try.prog w = .ok (.int .i64 x.d) w := run_part_plain w (by kernel_rfl) rfl
theorem part_a (x : Nd) (w : World) : (part 38 (ndC x) 1).run Try.prog w = .ok (.int .u64 x.a) w := run_part_plain w (by kernel_rfl) rfl
theorem node_fields : (Try.prog.fieldsOf 61).toList.map (fun f => (f.name == "_", f.type, f.offset)) = [(false, 3, 0), (false, 38, 1), (false, 43, 2)] := by kernel_rfl
theorem node_under : Try.prog.underlying 61 = some (.struct (Try.prog.fieldsOf 61)) := by kernel_rfl
theorem eq_node (a b : Nd) (ha : a.s.length = 32) (hb : b.s.length = 32) (w : World) : (Op.equalIn 10000 61 (.agg (ndC a)) (.agg (ndC b))).run Try.prog w = .ok (decide (a = b)) w := by
  rw [show (10000 : Nat) = 9999 + 1 from rfl, run_equalIn_struct w 9999 61 (ndC a) (ndC b) node_under (by kernel_rfl)]
  obtain ⟨i, hi⟩ : ∃ i, Try.prog.info? 5 = some i := Option.isSome_iff_exists.1 (by kernel_rfl)
  have h3 := run_equal_bytes_at w 9997 Try.underlying43 Try.underlying5 hi (by kernel_rfl) a.s b.s ha hb
  have h1 := run_equalIn_int (P := Try.prog) w 9998 3 .i64 .i64 a.d b.d Try.underlying3
  have h2 := run_equalIn_int (P := Try.prog) w 9998 38 .u64 .u64 a.a b.a Try.underlying38
  have hf := node_fields
  generalize (Try.prog.fieldsOf 61).toList = fs at hf
  have hp1 : ∀ y : Nd, y.s.length = 32 → (part 43 (ndC y) 2).run Try.prog w = .ok (.agg (bva y.s)) w := fun y hy => part_seed y hy w
  rcases fs with _ | ⟨f0, _ | ⟨f1, _ | ⟨f2, _ | ⟨f3, fs⟩⟩⟩⟩
  · simp at hf
  · simp at hf
  · simp at hf
  · simp only [List.map_cons, List.map_nil, List.cons.injEq, Prod.mk.injEq, and_true, beq_eq_false_iff_ne] at hf
    obtain ⟨⟨n0, t0, o0⟩, ⟨n1, t1, o1⟩, ⟨n2, t2, o2⟩⟩ := hf
    have hab : (decide (a = b)) = ((a.d == b.d) && ((a.a == b.a) && decide (a.s = b.s))) := by
      obtain ⟨d, x, s⟩ := a
      obtain ⟨d', x', s'⟩ := b
      by_cases e1 : d = d' <;> by_cases e2 : x = x' <;> by_cases e3 : s = s' <;> simp [e1, e2, e3]
    rw [hab]
    rw [Op.eqFields, if_pos n0, Sem.run_bind, t0, o0, part_d, Result.andThen_ok, Sem.run_bind, part_d, Result.andThen_ok, Sem.run_bind, h1, Result.andThen_ok]
    cases a.d == b.d
    · rfl
    · rw [Bool.true_and, if_neg (by simp), Op.eqFields, if_pos n1, Sem.run_bind, t1, o1, part_a, Result.andThen_ok, Sem.run_bind, part_a, Result.andThen_ok, Sem.run_bind, h2, Result.andThen_ok]
      cases a.a == b.a
      · rfl
      · rw [Bool.true_and, if_neg (by simp), Op.eqFields, if_pos n2, Sem.run_bind, t2, o2, hp1 a ha, Result.andThen_ok, Sem.run_bind, hp1 b hb, Result.andThen_ok, Sem.run_bind, h3, Result.andThen_ok]
        cases decide (a.s = b.s)
        · rfl
        · rfl
  · simp at hf
end Go.Proofs.Ytippbjpodnnhiaa.Kg.H
/-
  The contract of the law's same: are two rows of held nodes one?
-/
namespace Go.Proofs.Ytippbjpodnnhiaa.Kc
open Go.RowKit Kg
attribute [local go_sem ↓] Go.wp_at_zero Go.wp_at_succ
theorem take_more {α : Type} {xs ys : List α} {k : Nat} (h : xs.take k = ys.take k) (h1 : k < xs.length) (h2 : k < ys.length) (e : xs[k] = ys[k]) : xs.take (k + 1) = ys.take (k + 1) := by
  rw [List.take_succ_eq_append_getElem h1, List.take_succ_eq_append_getElem h2, h, e]
theorem same_not {α : Type} [DecidableEq α] {xs ys : List α} {k : Nat} (h1 : k < xs.length) (h2 : k < ys.length) (e : ¬ xs[k] = ys[k]) : decide (xs = ys) = false := by
  rw [decide_eq_false_iff_not]
  rintro rfl
  exact e rfl
theorem same_all {α : Type} [DecidableEq α] {xs ys : List α} {k : Nat} (h : xs.take k = ys.take k) (h1 : ¬ k < xs.length) (hl : xs.length = ys.length) : decide (xs = ys) = true := by
  rw [decide_eq_true_iff]
  rwa [List.take_of_length_le (by omega), List.take_of_length_le (by omega)] at h
theorem same_len {α : Type} [DecidableEq α] {xs ys : List α} (hl : ¬ xs.length = ys.length) : decide (xs = ys) = false := by
  rw [decide_eq_false_iff_not]
  rintro rfl
  exact hl rfl
theorem info_heldS : (Try.prog.info? 61).map (·.size) = some 34 := by kernel_rfl
set_option maxRecDepth 100000 in
set_option maxHeartbeats 3200000 in
theorem same_any {B B' : Nat} (A A' : Option Addr) (n m c d : Nat) (xs ys : List Nd) (w : World) (hn : xs.length = n) (hm : ys.length = m) (hx3 : ∀ x ∈ xs, x.s.length = 32) (hy3 : ∀ x ∈ ys, x.s.length = 32)
    (ha : Rd B w A (nvs xs)) (hb : Rd B' w A' (nvs ys)) (hn' : n ≤ maxLen) (hm' : m ≤ maxLen) :
    Calls Try.prog 16 #[.slice A n c, .slice A' m d] w (RetQ (.bool (decide (xs = ys))) w) := by
  subst hn
  subst hm
  unfold maxLen at hn' hm'
  by_cases hl : xs.length = ys.length
  · have HL := Lib.hid hl
    have hle : xs.length ≤ ys.length := by omega
    have hge : ys.length ≤ xs.length := by omega
    clear hl
    have HX3 := Lib.hid hx3
    have HY3 := Lib.hid hy3
    clear hx3 hy3
    go_enter Try.func16, Try.ntmps16
    go_wp2
    go_loopw [13] (fun i wr => ∃ k q : Nat, k ≤ xs.length ∧ i = .int .i64 k ∧ Hid (xs.take k = ys.take k) ∧ wr = w.drewN q) (fun i _ => xs.length - (intOf i).toNat)
    case atStart => exact ⟨0, 0, Nat.zero_le _, rfl, rfl, rfl⟩
    case round =>
      obtain ⟨k, q, hk, rfl, HT, rfl⟩ := hrel
      by_cases hlt : k < xs.length
      · have hlt' : k < ys.length := by omega
        obtain ⟨ad, hA, _, hca⟩ := rd_node ha HX3.out hlt
        obtain ⟨bd, hB, _, hcb⟩ := rd_node hb HY3.out hlt'
        subst hA
        subst hB
        have h0 : (0 : Int) ≤ (k : Int) := by omega
        have h1 : (k : Int) < (xs.length : Int) := by omega
        have h2 : (k : Int) < (ys.length : Int) := by omega
        obtain ⟨x, hx⟩ : ∃ x, x = xs[k] := ⟨_, rfl⟩
        obtain ⟨y, hy⟩ : ∃ y, y = ys[k] := ⟨_, rfl⟩
        have hxs : x.s.length = 32 := by rw [hx]; exact HX3.out _ (List.getElem_mem hlt)
        have hys : y.s.length = 32 := by rw [hy]; exact HY3.out _ (List.getElem_mem hlt')
        rw [← hx] at hca
        rw [← hy] at hcb
        have HIX : Hid ((Try.prog.info? 61).map (·.size) = some (ndV x).length) := by rw [ndV_length hxs]; exact info_heldS
        have HIY : Hid ((Try.prog.info? 61).map (·.size) = some (ndV y).length) := by rw [ndV_length hys]; exact info_heldS
        have heq := H.eq_node x y hxs hys
        clear ha hb
        by_cases hxy : x = y
        · rw [decide_eq_true hxy] at heq
          have HXY := Lib.hid hxy
          have HX := Lib.hid hx
          have HY := Lib.hid hy
          clear hxy hx hy hxs hys
          go_wp2_with fail
          refine wp_region_held_drew (S := fun w' => ∃ q', w' = w.drewN q') (by kernel_rfl) ⟨q + 1, rfl⟩ (fun hh => ?_)
          have HH := Lib.hid hh
          clear hh
          refine wpAnyH_take (i := 0) (v := ?va0) rfl (by kernel_rfl) (by kernel_rfl) (by kernel_rfl) (fun _ _ _ h => h) (Or.inl ⟨by rfl, fun w' _ => ?ya0⟩) HH.out ?_
          case ya0 => (go_simp; try with_reducible rfl)
          refine wpAnyH_take (i := 1) (v := ?va1) rfl (by kernel_rfl) (by kernel_rfl) (by kernel_rfl) (fun _ _ _ h => h) (Or.inl ⟨by rfl, fun w' _ => ?ya1⟩) HH.out ?_
          case ya1 => (go_simp; try with_reducible rfl)
          try simp only [List.getElem_toArray, List.getElem_cons_succ, List.getElem_cons_zero, Act.put, List.setIfInBounds_toArray, List.set_cons_zero, List.set_cons_succ]
          refine wpAnyH_take (i := 2) (v := ?va2) rfl (by kernel_rfl) (by kernel_rfl) (by kernel_rfl) (fun _ _ _ h => h) (Or.inl ⟨by rfl, fun w' _ => ?ya2⟩) HH.out ?_
          case ya2 => (go_simp; try with_reducible rfl)
          refine wpAnyH_take (i := 3) (v := .agg (ndC x)) rfl (by kernel_rfl) (by kernel_rfl) (by kernel_rfl) (fun _ _ _ h => h) (Or.inl ⟨by rfl, fun w' hw' => ?ya3⟩) HH.out ?_
          case ya3 => (obtain ⟨q', rfl⟩ := hw'; exact exec_load_at 61 (.tmp 18) rfl (ad.add (k * 34)) rfl hca Try.underlying61 rfl HIX.out)
          refine wpAnyH_take (i := 4) (v := ?va4) rfl (by kernel_rfl) (by kernel_rfl) (by kernel_rfl) (fun _ _ _ h => h) (Or.inl ⟨by rfl, fun w' _ => ?ya4⟩) HH.out ?_
          case ya4 => (go_simp; try with_reducible rfl)
          try simp only [List.getElem_toArray, List.getElem_cons_succ, List.getElem_cons_zero, Act.put, List.setIfInBounds_toArray, List.set_cons_zero, List.set_cons_succ]
          refine wpAnyH_take (i := 5) (v := ?va5) rfl (by kernel_rfl) (by kernel_rfl) (by kernel_rfl) (fun _ _ _ h => h) (Or.inl ⟨by rfl, fun w' _ => ?ya5⟩) HH.out ?_
          case ya5 => (go_simp; try with_reducible rfl)
          refine wpAnyH_take (i := 6) (v := ?va6) rfl (by kernel_rfl) (by kernel_rfl) (by kernel_rfl) (fun _ _ _ h => h) (Or.inl ⟨by rfl, fun w' _ => ?ya6⟩) HH.out ?_
          case ya6 => (go_simp; try with_reducible rfl)
          refine wpAnyH_take (i := 7) (v := .agg (ndC y)) rfl (by kernel_rfl) (by kernel_rfl) (by kernel_rfl) (fun _ _ _ h => h) (Or.inl ⟨by rfl, fun w' hw' => ?ya7⟩) HH.out ?_
          case ya7 => (obtain ⟨q', rfl⟩ := hw'; exact exec_load_at 61 (.tmp 22) rfl (bd.add (k * 34)) rfl hcb Try.underlying61 rfl HIY.out)
          try simp only [List.getElem_toArray, List.getElem_cons_succ, List.getElem_cons_zero, Act.put, List.setIfInBounds_toArray, List.set_cons_zero, List.set_cons_succ]
          refine wpAnyH_take (i := 8) (v := ?va8) rfl (by kernel_rfl) (by kernel_rfl) (by kernel_rfl) (fun _ _ _ h => h) (Or.inl ⟨by rfl, fun w' _ => ?ya8⟩) HH.out ?_
          case ya8 => (go_simp; try with_reducible rfl)
          try simp only [List.getElem_toArray, List.getElem_cons_succ, List.getElem_cons_zero, Act.put, List.setIfInBounds_toArray, List.set_cons_zero, List.set_cons_succ]
          refine wpAnyH_done (by kernel_rfl) ?_ _
          obtain ⟨q2, hq2⟩ := HH.out
          go_wp2_with fail
          go_roundw
          case rel => exact ⟨k + 1, _, by omega, by go_num, take_more HT.out hlt hlt' (by rw [← HX.out, ← HY.out]; exact HXY.out), rfl⟩
          case measure => simp [intOf]; omega
        · rw [decide_eq_false hxy] at heq
          have HXY := Lib.hid hxy
          have HX := Lib.hid hx
          have HY := Lib.hid hy
          clear hxy hx hy hxs hys
          go_wp2_with fail
          refine wp_region_held_drew (S := fun w' => ∃ q', w' = w.drewN q') (by kernel_rfl) ⟨q + 1, rfl⟩ (fun hh => ?_)
          have HH := Lib.hid hh
          clear hh
          refine wpAnyH_take (i := 0) (v := ?vb0) rfl (by kernel_rfl) (by kernel_rfl) (by kernel_rfl) (fun _ _ _ h => h) (Or.inl ⟨by rfl, fun w' _ => ?yb0⟩) HH.out ?_
          case yb0 => (go_simp; try with_reducible rfl)
          refine wpAnyH_take (i := 1) (v := ?vb1) rfl (by kernel_rfl) (by kernel_rfl) (by kernel_rfl) (fun _ _ _ h => h) (Or.inl ⟨by rfl, fun w' _ => ?yb1⟩) HH.out ?_
          case yb1 => (go_simp; try with_reducible rfl)
          try simp only [List.getElem_toArray, List.getElem_cons_succ, List.getElem_cons_zero, Act.put, List.setIfInBounds_toArray, List.set_cons_zero, List.set_cons_succ]
          refine wpAnyH_take (i := 2) (v := ?vb2) rfl (by kernel_rfl) (by kernel_rfl) (by kernel_rfl) (fun _ _ _ h => h) (Or.inl ⟨by rfl, fun w' _ => ?yb2⟩) HH.out ?_
          case yb2 => (go_simp; try with_reducible rfl)
          refine wpAnyH_take (i := 3) (v := .agg (ndC x)) rfl (by kernel_rfl) (by kernel_rfl) (by kernel_rfl) (fun _ _ _ h => h) (Or.inl ⟨by rfl, fun w' hw' => ?yb3⟩) HH.out ?_
          case yb3 => (obtain ⟨q', rfl⟩ := hw'; exact exec_load_at 61 (.tmp 18) rfl (ad.add (k * 34)) rfl hca Try.underlying61 rfl HIX.out)
          refine wpAnyH_take (i := 4) (v := ?vb4) rfl (by kernel_rfl) (by kernel_rfl) (by kernel_rfl) (fun _ _ _ h => h) (Or.inl ⟨by rfl, fun w' _ => ?yb4⟩) HH.out ?_
          case yb4 => (go_simp; try with_reducible rfl)
          try simp only [List.getElem_toArray, List.getElem_cons_succ, List.getElem_cons_zero, Act.put, List.setIfInBounds_toArray, List.set_cons_zero, List.set_cons_succ]
          refine wpAnyH_take (i := 5) (v := ?vb5) rfl (by kernel_rfl) (by kernel_rfl) (by kernel_rfl) (fun _ _ _ h => h) (Or.inl ⟨by rfl, fun w' _ => ?yb5⟩) HH.out ?_
          case yb5 => (go_simp; try with_reducible rfl)
          refine wpAnyH_take (i := 6) (v := ?vb6) rfl (by kernel_rfl) (by kernel_rfl) (by kernel_rfl) (fun _ _ _ h => h) (Or.inl ⟨by rfl, fun w' _ => ?yb6⟩) HH.out ?_
          case yb6 => (go_simp; try with_reducible rfl)
          refine wpAnyH_take (i := 7) (v := .agg (ndC y)) rfl (by kernel_rfl) (by kernel_rfl) (by kernel_rfl) (fun _ _ _ h => h) (Or.inl ⟨by rfl, fun w' hw' => ?yb7⟩) HH.out ?_
          case yb7 => (obtain ⟨q', rfl⟩ := hw'; exact exec_load_at 61 (.tmp 22) rfl (bd.add (k * 34)) rfl hcb Try.underlying61 rfl HIY.out)
          try simp only [List.getElem_toArray, List.getElem_cons_succ, List.getElem_cons_zero, Act.put, List.setIfInBounds_toArray, List.set_cons_zero, List.set_cons_succ]
          refine wpAnyH_take (i := 8) (v := ?vb8) rfl (by kernel_rfl) (by kernel_rfl) (by kernel_rfl) (fun _ _ _ h => h) (Or.inl ⟨by rfl, fun w' _ => ?yb8⟩) HH.out ?_
          case yb8 => (go_simp; try with_reducible rfl)
          try simp only [List.getElem_toArray, List.getElem_cons_succ, List.getElem_cons_zero, Act.put, List.setIfInBounds_toArray, List.set_cons_zero, List.set_cons_succ]
          refine wpAnyH_done (by kernel_rfl) ?_ _
          go_wp2_with fail
          go_ret
          exact ⟨ret_bool (same_not hlt hlt' (by rw [← HX.out, ← HY.out]; exact HXY.out)).symm, HH.out⟩
      · go_wp2
        go_ret
        exact RetQ.mk1 (ret_bool (same_all HT.out hlt HL.out).symm)
  · have hz : ((xs.length : Int) != (ys.length : Int)) = true := by simp; omega
    have HL := Lib.hid hl
    clear hl
    go_enter Try.func16, Try.ntmps16
    go_wp2
    go_ret
    exact RetQ.mk0 (ret_bool (same_len HL.out).symm)
end Go.Proofs.Ytippbjpodnnhiaa.Kc
/-
  string(b) of a row of bytes, nil let in.
-/
namespace Go.Proofs.Ytippbjpodnnhiaa
open Go.RowKit
theorem conv_rd {P : Program} {w : World} {src dst e : TypeId} {B n c : Nat} {A : Option Addr} {l : List UInt8} (hs : P.underlying src = some (.slice e)) (he : P.underlying e = some (.int .u8)) (hd : P.underlying dst = some .string)
    (h : Rd B w A (bv l)) (hn : l.length = n) : (convert src dst (.slice A n c)).run P w = .ok (.string ⟨l.toArray⟩) w := by
  subst hn
  cases A with
  | some ad => exact run_convert_bytes_back w src dst e ad c l hs he hd (fun j hj => by
      obtain ⟨ad', e', _, hc⟩ := h.at_ hj
      injection e' with e'
      subst e'
      exact hc)
  | none =>
    have hl : l = [] := by
      cases l with
      | nil => rfl
      | cons b t => obtain ⟨_, h', _⟩ := h 0 _ rfl; cases h'
    subst hl
    show (convert src dst (.slice none 0 c)).run P w = _
    rw [run_convert_bytes_string w src dst e none 0 c hs he hd]
    trace_state
    rfl
end Go.Proofs.Ytippbjpodnnhiaa
/-
  How arguments that came in are opened: a []byte, a slice of them, and so on, as what my words say of them.
-/
namespace Go.Proofs.Ytippbjpodnnhiaa
open Go.RowKit Go.ChangeShapes Go.WideShapes

/-- The byte of a number. -/
def byteOf (n : Int) : UInt8 := UInt8.ofNat n.toNat
theorem byteOf_val {n : Int} (h : (Lit.int .u8 n).wf = true) : ((byteOf n).toNat : Int) = n := by
  have hb := bounds_u8 h
  unfold byteOf
  rw [UInt8.toNat_ofNat']
  omega

section
variable {H : Type} {enc : TypeId × Value → H} {P : Program} {w : World} {base : Nat} {spare : Nat → Bool} {held : Bool}

theorem isB_of_trod {t e fuel : Nat} {v : Value} {x : DataW H × List MemPlace} (ht : P.underlying t = some (.slice e)) (he : P.underlying e = some (.int .u8)) (hc : P.cellsOf e = 1)
    (h : DataW.trod enc P w base spare held fuel t [v] = some x) : ∃ l, IsB w.heap.size w v l := by
  rcases open_ints ht he hc h with ⟨hcs, _⟩ | ⟨a, len, cap, zs, hcs, _, hl, hm, hz, _, hcell, hwz⟩
  · simp only [List.cons.injEq, and_true] at hcs
    subst hcs
    exact ⟨[], none, 0, rfl, Nat.le_refl _, Nat.zero_le _, Rd.none⟩
  · simp only [List.cons.injEq, and_true] at hcs
    subst hcs
    have hlz : len ≤ zs.length := by rw [hz]; split <;> omega
    have hlen : ((zs.take len).map byteOf).length = len := by simp; omega
    refine ⟨(zs.take len).map byteOf, some a, cap, by rw [hlen], by omega, hm, fun k u hu => ?_⟩
    have hk : k < len := by
      have := (List.getElem?_eq_some_iff.1 hu).1
      rw [bv_length, hlen] at this
      exact this
    have hkz : k < zs.length := by omega
    have hg := hcell k hkz
    have hd : zs.getD k 0 = zs[k] := by simp [List.getD, hkz]
    have hw := hwz _ (List.getElem_mem hkz)
    have hb := World.block_lt_of_cell? _ _ hg
    rw [add_block] at hb
    refine ⟨a, rfl, hb, ?_⟩
    rw [hg, hd]
    have e2 : (bv ((zs.take len).map byteOf))[k]? = some (.int .u8 zs[k]) := by
      rw [bv_get (by rw [hlen]; exact hk)]
      simp only [List.getElem_map, List.getElem_take]
      rw [byteOf_val hw]
    rw [← hu, e2]

theorem isL_of_trod {α : Type} {R : Value → α → Prop} {t e fuel : Nat} {v : Value} {x : DataW H × List MemPlace} (ht : P.underlying t = some (.slice e)) (hc : P.cellsOf e = 1)
    (each : ∀ (n : Nat) (u : Value) (y : DataW H × List MemPlace), DataW.trod enc P w base spare held n e [u] = some y → ∃ l, R u l)
    (h : DataW.trod enc P w base spare held fuel t [v] = some x) : ∃ ls, IsL w.heap.size w R v ls := by
  rcases Go.Deep.open_slice1 ht hc h with ⟨hcs, _⟩ | ⟨a, len, cap, m, n, V, D, Pl, hcs, _, hl, hm, hmm, _, hx⟩
  · simp only [List.cons.injEq, and_true] at hcs
    subst hcs
    exact ⟨[], none, 0, rfl, Nat.le_refl _, Nat.zero_le _, RdL.none⟩
  · simp only [List.cons.injEq, and_true] at hcs
    subst hcs
    have hlm : len ≤ m := by rw [hmm]; split <;> omega
    have hall : ∀ j, j ≤ len → ∃ ls : List α, ls.length = j ∧ ∀ (k : Nat) (l : α), ls[k]? = some l → R (V k) l := by
      intro j
      induction j with
      | zero => exact fun _ => ⟨[], rfl, fun k l hk => by simp at hk⟩
      | succ j ih =>
        intro hj
        obtain ⟨ls, hls, hR⟩ := ih (by omega)
        obtain ⟨l, hl'⟩ := each n (V j) _ (hx j (by omega)).2
        refine ⟨ls ++ [l], by simp [hls], fun k l' hk => ?_⟩
        rcases Nat.lt_trichotomy k j with hlt | rfl | hgt
        · rw [List.getElem?_append_left (by omega)] at hk
          exact hR k l' hk
        · rw [List.getElem?_append_right (by omega), hls, Nat.sub_self] at hk
          injection hk with hk
          subst hk
          exact hl'
        · rw [List.getElem?_eq_none (by simp; omega)] at hk
          cases hk
    obtain ⟨ls, hls, hR⟩ := hall len (Nat.le_refl _)
    refine ⟨ls, some a, cap, by rw [hls], by omega, hm, (List.range len).map V, by simp [hls], fun k u hu => ?_, fun k u l hu hl' => ?_⟩
    · have hk : k < len := by have := (List.getElem?_eq_some_iff.1 hu).1; simpa using this
      have hg := (hx k (by omega)).1
      have hb := World.block_lt_of_cell? _ _ hg
      rw [add_block] at hb
      have e2 : ((List.range len).map V)[k]? = some (V k) := by simp [hk]
      exact ⟨a, rfl, hb, by rw [hg, ← hu, e2]⟩
    · have hk : k < len := by have := (List.getElem?_eq_some_iff.1 hu).1; simpa using this
      have e2 : ((List.range len).map V)[k]? = some (V k) := by simp [hk]
      rw [e2] at hu
      injection hu with hu
      subst hu
      exact hR k l hl'

/-- A []byte that came in. -/
theorem open_bytes {t e : Nat} {a : Option Addr} {len cap : Nat} {d : DataW H} {ps : List MemPlace} (ht : P.underlying t = some (.slice e)) (he : P.underlying e = some (.int .u8)) (hc : P.cellsOf e = 1)
    (h : DataW.Trod enc P w base spare held t (.slice a len cap) d ps) : ∃ l : List UInt8, l.length = len ∧ len ≤ cap ∧ cap ≤ maxLen ∧ Rd w.heap.size w a (bv l) := by
  obtain ⟨fuel, hf⟩ := h
  obtain ⟨l, A, c, hv, h1, h2, h3⟩ := isB_of_trod ht he hc hf
  injection hv with e1 e2 e3
  subst e1; subst e2; subst e3
  exact ⟨l, rfl, h1, h2, h3⟩
/-- A [][]byte that came in. -/
theorem open_rows {t s e : Nat} {a : Option Addr} {len cap : Nat} {d : DataW H} {ps : List MemPlace} (ht : P.underlying t = some (.slice s)) (hs : P.underlying s = some (.slice e)) (he : P.underlying e = some (.int .u8))
    (hcs : P.cellsOf s = 1) (hc : P.cellsOf e = 1)
    (h : DataW.Trod enc P w base spare held t (.slice a len cap) d ps) : ∃ ls : List (List UInt8), ls.length = len ∧ len ≤ cap ∧ cap ≤ maxLen ∧ RdB w.heap.size w a ls := by
  obtain ⟨fuel, hf⟩ := h
  obtain ⟨ls, A, c, hv, h1, h2, h3⟩ := isL_of_trod (R := IsB w.heap.size w) ht hcs (fun _ _ _ hy => isB_of_trod hs he hc hy) hf
  injection hv with e1 e2 e3
  subst e1; subst e2; subst e3
  exact ⟨ls, rfl, h1, h2, h3⟩
/-- A [][][]byte that came in. -/
theorem open_rows3 {t r s e : Nat} {a : Option Addr} {len cap : Nat} {d : DataW H} {ps : List MemPlace} (ht : P.underlying t = some (.slice r)) (hr : P.underlying r = some (.slice s)) (hs : P.underlying s = some (.slice e)) (he : P.underlying e = some (.int .u8))
    (hcr : P.cellsOf r = 1) (hcs : P.cellsOf s = 1) (hc : P.cellsOf e = 1)
    (h : DataW.Trod enc P w base spare held t (.slice a len cap) d ps) : ∃ ls : List (List (List UInt8)), ls.length = len ∧ len ≤ cap ∧ cap ≤ maxLen ∧ RdL w.heap.size w (IsL w.heap.size w (IsB w.heap.size w)) a ls := by
  obtain ⟨fuel, hf⟩ := h
  obtain ⟨ls, A, c, hv, h1, h2, h3⟩ := isL_of_trod (R := IsL w.heap.size w (IsB w.heap.size w)) ht hcr (fun _ _ _ hy => isL_of_trod hr hcs (fun _ _ _ hz => isB_of_trod hs he hc hz) hy) hf
  injection hv with e1 e2 e3
  subst e1; subst e2; subst e3
  exact ⟨ls, rfl, h1, h2, h3⟩
end

end Go.Proofs.Ytippbjpodnnhiaa
/-
  How a row of held nodes that came in is opened.
-/
namespace Go.Proofs.Ytippbjpodnnhiaa.Kg.H
open Go.RowKit
section
open Go.ChangeShapes Go.WideShapes
variable {H : Type} {enc : TypeId × Value → H} {w : World} {base : Nat} {spare : Nat → Bool} {held : Bool}
theorem bytes_of_trod {t : Nat} {fuel : Nat} {cs : List Value} {x : DataW H × List MemPlace} (ht : Try.prog.underlying t = some (.array 32 5)) (hn : Try.prog.cellsOf t = 32)
    (h : DataW.trod enc Try.prog w base spare held fuel t cs = some x) : ∃ s : List UInt8, s.length = 32 ∧ cs = bv s := by
  obtain ⟨xs, m, _, _, hl, hx, hel⟩ := DataW.trod_array ht h
  have hc : Try.prog.cellsOf 5 = 1 := by kernel_rfl
  rw [hn] at hl
  have each : ∀ i (hi : i < cs.length), ∃ z, cs[i] = .int .u8 z ∧ (Lit.int .u8 z).wf = true := by
    intro i hi
    have h1 := hel i (by omega)
    rw [List.getElem?_eq_getElem (by omega), hc, Nat.mul_one] at h1
    obtain ⟨z, e1, _, hw⟩ := DataW.trod_int Try.underlying5 h1
    rw [List.drop_eq_getElem_cons hi] at e1
    have e2 : (cs[i] :: cs.drop (i + 1)).take 1 = [cs[i]] := rfl
    rw [e2] at e1
    injection e1 with e1
    exact ⟨z, e1, hw⟩
  refine ⟨cs.map fun v => byteOf (match v with | .int _ z => z | _ => 0), by simpa using hl, ?_⟩
  apply List.ext_getElem?
  intro i
  rcases Nat.lt_or_ge i cs.length with hi | hi
  · obtain ⟨z, hz, hw⟩ := each i hi
    rw [List.getElem?_eq_getElem hi, bv_get (by simpa using hi), hz]
    simp only [List.getElem_map, hz]
    rw [byteOf_val hw]
  · rw [List.getElem?_eq_none hi, List.getElem?_eq_none (by rw [bv_length]; simpa using hi)]
set_option maxRecDepth 100000 in
theorem node_of_trod {fuel : Nat} {cs : List Value} {x : DataW H × List MemPlace} (h : DataW.trod enc Try.prog w base spare held fuel 61 cs = some x) :
    ∃ y : Nd, cs = ndV y ∧ (-9223372036854775808 ≤ y.d ∧ y.d ≤ 9223372036854775807) ∧ (0 ≤ y.a ∧ y.a ≤ 18446744073709551615) ∧ y.s.length = 32 := by
  obtain ⟨xs, n, _, _, hl, hlen, hf⟩ := DataW.trod_struct node_under h
  have hfs := node_fields
  have hcn : Try.prog.cellsOf 61 = 34 := by kernel_rfl
  have hci : Try.prog.cellsOf 3 = 1 := by kernel_rfl
  have hcu : Try.prog.cellsOf 38 = 1 := by kernel_rfl
  have hcb : Try.prog.cellsOf 43 = 32 := by kernel_rfl
  generalize Try.prog.fieldsOf 61 = fs at hfs hlen hf
  rw [hcn] at hl
  obtain ⟨L⟩ := fs
  have hL3 : L.length = 3 := by simpa using congrArg List.length hfs
  match L, hL3, hfs, hf, hlen with
  | [f0, f1, f2], _, hfs, hf, hlen =>
    simp only [List.map_cons, List.map_nil, List.cons.injEq, Prod.mk.injEq, and_true] at hfs
    obtain ⟨⟨_, t0, o0⟩, ⟨_, t1, o1⟩, ⟨_, t2, o2⟩⟩ := hfs
    have h3 : xs.length = 3 := hlen
    have g0 := hf 0 f0 rfl
    have g1 := hf 1 f1 rfl
    have g2 := hf 2 f2 rfl
    rw [t0, o0, hci, List.getElem?_eq_getElem (by omega)] at g0
    rw [t1, o1, hcu, List.getElem?_eq_getElem (by omega)] at g1
    rw [t2, o2, hcb, List.getElem?_eq_getElem (by omega)] at g2
    obtain ⟨d, e0, _, w0⟩ := DataW.trod_int Try.underlying3 g0
    obtain ⟨a, e1, _, w1⟩ := DataW.trod_int Try.underlying38 g1
    obtain ⟨s, hs, e2⟩ := bytes_of_trod Try.underlying43 hcb g2
    match cs, hl with
    | u :: v :: r, hl =>
      simp at e0 e1
      rw [List.take_of_length_le (by simp at hl ⊢; omega)] at e2
      simp at e2
      exact ⟨⟨d, a, s⟩, by rw [e0, e1, e2]; rfl, bounds_i64 w0, bounds_u64 w1, hs⟩
/-- A row of nodes that came in. -/
theorem open_nodes {a : Option Addr} {len cap : Nat} {d : DataW H} {ps : List MemPlace} (h : DataW.Trod enc Try.prog w base spare held 22 (.slice a len cap) d ps) :
    ∃ l : List Nd, l.length = len ∧ len ≤ cap ∧ cap ≤ maxLen ∧ Rd w.heap.size w a (nvs l) ∧ ∀ y ∈ l, (-9223372036854775808 ≤ y.d ∧ y.d ≤ 9223372036854775807) ∧ (0 ≤ y.a ∧ y.a ≤ 18446744073709551615) ∧ y.s.length = 32 := by
  obtain ⟨fuel, hf⟩ := h
  have hf' : DataW.trod enc Try.prog w base spare held fuel 22 [Value.slice a len cap] = some (d, ps) := hf
  have hcn : Try.prog.cellsOf 61 = 34 := by kernel_rfl
  rcases Go.Deep.open_slice Try.underlying22 hf' with ⟨hcs, _⟩ | ⟨a', len', cap', m, n, D, Pl, hcs, _, hl, hm, hmm, _, hx⟩
  · simp only [List.cons.injEq, and_true] at hcs
    injection hcs with e1 e2 e3
    subst e1; subst e2; subst e3
    exact ⟨[], rfl, Nat.le_refl _, Nat.zero_le _, Rd.none, fun y hy => by simp at hy⟩
  · simp only [List.cons.injEq, and_true] at hcs
    injection hcs with e1 e2 e3
    subst e1; subst e2; subst e3
    have hlm : len ≤ m := by rw [hmm]; split <;> omega
    rw [hcn] at hx
    have hall : ∀ j, j ≤ len → ∃ l : List Nd, l.length = j ∧ (∀ y ∈ l, (-9223372036854775808 ≤ y.d ∧ y.d ≤ 9223372036854775807) ∧ (0 ≤ y.a ∧ y.a ≤ 18446744073709551615) ∧ y.s.length = 32) ∧
        ∀ k u, (nvs l)[k]? = some u → w.cell? (a'.add k) = some u := by
      intro j
      induction j with
      | zero => exact fun _ => ⟨[], rfl, fun y hy => by simp at hy, fun k u hu => by simp [nvs] at hu⟩
      | succ j ih =>
        intro hj
        obtain ⟨l, hl', hb, hc⟩ := ih (by omega)
        obtain ⟨cs', h1, h2⟩ := hx j (by omega)
        obtain ⟨y, hy, hyb⟩ := node_of_trod h2
        obtain ⟨_, _, hcl⟩ := World.cells?_some h1
        have hnl : (nvs l).length = j * 34 := by rw [nvs_length (fun z hz => (hb z hz).2.2), hl']
        refine ⟨l ++ [y], by simp [hl'], fun z hz => ?_, fun k u hu => ?_⟩
        · rcases List.mem_append.1 hz with hz | hz
          · exact hb z hz
          · rw [List.mem_singleton] at hz; rw [hz]; exact hyb
        · rw [nvs_append] at hu
          rcases Nat.lt_or_ge k (nvs l).length with hk | hk
          · rw [List.getElem?_append_left hk] at hu
            exact hc k u hu
          · rw [List.getElem?_append_right hk, nvs, nvs, List.append_nil, ← hy, hnl] at hu
            have hk34 : k - j * 34 < 34 := by
              have := (List.getElem?_eq_some_iff.1 hu).1
              rw [hy, ndV_length hyb.2.2] at this; exact this
            have h3 := hcl (k - j * 34) hk34
            rw [add_twice, show j * 34 + (k - j * 34) = k by omega, hu] at h3
            exact h3
    obtain ⟨l, hl', hb, hc⟩ := hall len (Nat.le_refl _)
    refine ⟨l, hl', hl, hm, fun k u hu => ⟨a', rfl, ?_, hc k u hu⟩, hb⟩
    have := World.block_lt_of_cell? _ _ (hc k u hu)
    rw [add_block] at this
    exact this
end
end Go.Proofs.Ytippbjpodnnhiaa.Kg.H
/-
  How an array of numbers that came in by value is opened: its numbers, as a list.
-/
namespace Go.Proofs.Ytippbjpodnnhiaa
open Go.RowKit Go.ChangeShapes Go.WideShapes

section
variable {H : Type} {enc : TypeId × Value → H} {P : Program} {w : World} {r : Reach} {b0 base : Nat} {spare : Nat → Bool} {held : Bool}

theorem open_arr {t e n : Nat} {k : IntKind} {v : Value} {d : DataW H} {ps : List MemPlace} (ht : P.underlying t = some (.array n e)) (he : P.underlying e = some (.int k)) (hc : P.cellsOf e = 1) (hn : P.cellsOf t = n)
    (hval : Value.okWide P w r b0 t v) (h : DataW.Trod enc P w base spare held t v d ps) :
    ∃ zs : List Int, zs.length = n ∧ v = .agg (zs.map (Value.int k)).toArray ∧ ∀ z ∈ zs, (Lit.int k z).wf = true := by
  obtain ⟨cs, rfl, hsz⟩ : ∃ cs, v = .agg cs ∧ cs.size = n := by
    have h1 := hval
    simp only [Value.okWide, ht] at h1
    obtain ⟨cs, e1, e2, _⟩ := h1
    exact ⟨cs, e1, by rw [e2, hn]⟩
  obtain ⟨fuel, hf⟩ := h
  obtain ⟨xs, m, _, _, hl, hx, hel⟩ := DataW.trod_array ht hf
  have each : ∀ i (hi : i < cs.size), ∃ z, cs[i] = .int k z ∧ (Lit.int k z).wf = true := by
    intro i hi
    have h1 := hel i (by omega)
    have hxi : i < xs.length := by omega
    rw [List.getElem?_eq_getElem hxi, hc, Nat.mul_one] at h1
    obtain ⟨z, e1, _, hw⟩ := DataW.trod_int he h1
    have e2 : ((Value.agg cs).cells.toList.drop i).take 1 = [cs[i]] := by
      show (cs.toList.drop i).take 1 = [cs[i]]
      rw [List.drop_eq_getElem_cons (by simpa using hi)]
      simp
    rw [e2] at e1
    injection e1 with e1
    exact ⟨z, e1, hw⟩
  refine ⟨cs.toList.map (fun v => match v with | .int _ z => z | _ => 0), by simpa using hsz, ?_, ?_⟩
  · congr 1
    apply Array.ext
    · simp
    · intro i h1 h2
      obtain ⟨z, hz, _⟩ := each i h1
      simp [hz]
  · intro z hz
    simp only [List.mem_map] at hz
    obtain ⟨v, hv, rfl⟩ := hz
    obtain ⟨i, hi, rfl⟩ := List.getElem_of_mem hv
    obtain ⟨z, hz, hw⟩ := each i (by simpa using hi)
    have : cs.toList[i] = .int k z := by simpa using hz
    rw [this]
    exact hw

theorem open_u32s {t e n : Nat} {v : Value} {d : DataW H} {ps : List MemPlace} (ht : P.underlying t = some (.array n e)) (he : P.underlying e = some (.int .u32)) (hc : P.cellsOf e = 1) (hn : P.cellsOf t = n)
    (hval : Value.okWide P w r b0 t v) (h : DataW.Trod enc P w base spare held t v d ps) : ∃ s : List UInt32, s.length = n ∧ v = .agg (uv s) := by
  obtain ⟨zs, hl, rfl, hw⟩ := open_arr ht he hc hn hval h
  refine ⟨zs.map fun z => UInt32.ofNat z.toNat, by simpa using hl, ?_⟩
  unfold uv
  rw [List.map_map]
  congr 2
  apply List.map_congr_left
  intro z hz
  have hb := bounds_u32 (hw z hz)
  simp only [Function.comp]
  exact int_eq (by rw [UInt32.toNat_ofNat']; omega)
theorem open_u8s {t e n : Nat} {v : Value} {d : DataW H} {ps : List MemPlace} (ht : P.underlying t = some (.array n e)) (he : P.underlying e = some (.int .u8)) (hc : P.cellsOf e = 1) (hn : P.cellsOf t = n)
    (hval : Value.okWide P w r b0 t v) (h : DataW.Trod enc P w base spare held t v d ps) : ∃ l : List UInt8, l.length = n ∧ v = .agg (bva l) := by
  obtain ⟨zs, hl, rfl, hw⟩ := open_arr ht he hc hn hval h
  refine ⟨zs.map fun z => UInt8.ofNat z.toNat, by simpa using hl, ?_⟩
  unfold bva bv
  rw [List.map_map]
  congr 2
  apply List.map_congr_left
  intro z hz
  have hb := bounds_u8 (hw z hz)
  simp only [Function.comp]
  exact int_eq (by rw [UInt8.toNat_ofNat']; omega)
end
end Go.Proofs.Ytippbjpodnnhiaa
/-
  How a []uint64 that came in is opened: its numbers, as a list.
-/
namespace Go.Proofs.Ytippbjpodnnhiaa
open Go.RowKit Go.ChangeShapes Go.WideShapes
/-- The cells of a row of 64-bit numbers without a sign. -/
def iv64 (l : List Int) : List Value := l.map (Value.int .u64)
theorem iv64_length (l : List Int) : (iv64 l).length = l.length := by simp [iv64]
theorem iv64_get {l : List Int} {k : Nat} (hk : k < l.length) : (iv64 l)[k]? = some (.int .u64 (l.getD k 0)) := by
  simp [iv64, hk]
theorem rd_u64 {B : Nat} {w : World} {A : Option Addr} {l : List Int} (h : Rd B w A (iv64 l)) {k : Nat} (hk : k < l.length) : ∃ ad, A = some ad ∧ ad.block < B ∧ w.cell? (ad.add k) = some (.int .u64 (l.getD k 0)) :=
  h k _ (iv64_get hk)
section
variable {H : Type} {enc : TypeId × Value → H} {P : Program} {w : World} {base : Nat} {spare : Nat → Bool} {held : Bool}
theorem open_u64s {t e : Nat} {a : Option Addr} {len cap : Nat} {d : DataW H} {ps : List MemPlace} (ht : P.underlying t = some (.slice e)) (he : P.underlying e = some (.int .u64)) (hc : P.cellsOf e = 1)
    (h : DataW.Trod enc P w base spare held t (.slice a len cap) d ps) : ∃ l : List Int, l.length = len ∧ len ≤ cap ∧ cap ≤ maxLen ∧ Rd w.heap.size w a (iv64 l) ∧ ∀ z ∈ l, 0 ≤ z ∧ z ≤ 18446744073709551615 := by
  obtain ⟨fuel, hf⟩ := h
  have hf' : DataW.trod enc P w base spare held fuel t [Value.slice a len cap] = some (d, ps) := hf
  rcases open_ints ht he hc hf' with ⟨hcs, _⟩ | ⟨a', len', cap', zs, hcs, _, hl, hm, hz, _, hcell, hwz⟩
  · simp only [List.cons.injEq, and_true] at hcs
    injection hcs with e1 e2 e3
    subst e1; subst e2; subst e3
    exact ⟨[], rfl, Nat.le_refl _, Nat.zero_le _, Rd.none, fun z hz => by simp at hz⟩
  · simp only [List.cons.injEq, and_true] at hcs
    injection hcs with e1 e2 e3
    subst e1; subst e2; subst e3
    have hlz : len ≤ zs.length := by rw [hz]; split <;> omega
    refine ⟨zs.take len, by rw [List.length_take]; omega, hl, hm, fun k u hu => ?_, fun z hz => bounds_u64 (hwz z (List.mem_of_mem_take hz))⟩
    have hk : k < len := by
      have := (List.getElem?_eq_some_iff.1 hu).1
      rw [iv64_length, List.length_take] at this; omega
    have hkz : k < zs.length := by omega
    have hg := hcell k hkz
    have hb := World.block_lt_of_cell? _ _ hg
    rw [add_block] at hb
    refine ⟨a', rfl, hb, ?_⟩
    have e2 : (iv64 (zs.take len))[k]? = some (.int .u64 zs[k]) := by simp [iv64, hk, hkz]
    have hd : zs.getD k 0 = zs[k] := by simp [List.getD, hkz]
    rw [hg, hd, ← hu, e2]
end
end Go.Proofs.Ytippbjpodnnhiaa
/-
  The contract of the little cipher's pad: 32 bytes that hang on the key, the number and the place.
-/
namespace Go.Proofs.Ytippbjpodnnhiaa.Ci
open Go.RowKit
/-- A list as far as its first n are laid. -/
def layTo {α : Type} (z : α) (f : Nat → α) (N : Nat) : Nat → List α
  | 0 => List.replicate N z
  | n + 1 => (layTo z f N n).set n (f n)
theorem layTo_length {α : Type} (z : α) (f : Nat → α) (N : Nat) : ∀ n, (layTo z f N n).length = N
  | 0 => by simp [layTo]
  | n + 1 => by rw [layTo, List.length_set, layTo_length z f N n]
theorem layTo_get {α : Type} (z : α) (f : Nat → α) (N : Nat) : ∀ n j, j < n → n ≤ N → (layTo z f N n)[j]? = some (f j)
  | 0, j, h, _ => by omega
  | n + 1, j, h, h' => by
    rw [layTo]
    by_cases e : j = n
    · subst e
      rw [List.getElem?_set_self (by rw [layTo_length]; omega)]
    · rw [List.getElem?_set_ne (fun e' => e e'.symm)]
      exact layTo_get z f N n j (by omega) (by omega)
theorem layTo_all {α : Type} (z : α) (f : Nat → α) (N : Nat) : layTo z f N N = (List.range N).map f := by
  apply List.ext_getElem?
  intro j
  by_cases h : j < N
  · rw [layTo_get z f N N j h (Nat.le_refl _), List.getElem?_map, List.getElem?_range h]; rfl
  · rw [List.getElem?_eq_none (by rw [layTo_length]; omega), List.getElem?_eq_none (by simp; omega)]
/-- A number of 64 bits without a sign. -/
abbrev w64 (z : Int) : Int := IntKind.u64.wrap z
/-- A byte as such a number. -/
def wb (b : UInt8) : Int := w64 (b.toNat : Int)
/-- The little cipher's number behind so many steps. -/
def litX (k : List UInt8) (n : Int) : Nat → Int
  | 0 => w64 (w64 (w64 (wb (k.getD 0 0) + w64 (256 * wb (k.getD 1 0))) + w64 (65536 * wb (k.getD 2 0))) + 7)
  | i + 1 => w64 (w64 (w64 (w64 (litX k n i * 6364136223846793005) + 1442695040888963407) + n) + wb (k.getD i 0))
/-- Its byte. -/
def litB (x : Int) : UInt8 := UInt8.ofNat (x / 2 ^ 56 % 256).toNat
theorem litB_val (x : Int) : x / 2 ^ 56 % 256 = ((litB x).toNat : Int) := by
  rw [litB, UInt8.toNat_ofNat']; omega
/-- The little cipher's pad. -/
def litL (k : List UInt8) (n : Int) : List UInt8 := (List.range 32).map fun i => litB (litX k n (i + 1))
theorem litL_length (k : List UInt8) (n : Int) : (litL k n).length = 32 := by simp [litL]
theorem litL_lay (k : List UInt8) (n : Int) : layTo 0 (fun i => litB (litX k n (i + 1))) 32 32 = litL k n := layTo_all _ _ _
theorem info_key : (Try.prog.info? 43).map (·.size) = some 32 := by kernel_rfl
theorem info_blk : (Try.prog.info? 47).map (·.size) = some 32 := by kernel_rfl
set_option maxHeartbeats 400000 in
theorem litpad_any (key : List UInt8) (hk : key.length = 32) (n : Int) (w : World) :
    Calls Try.prog 84 #[.agg (bva key), .int .u64 n] w (RetB (.agg (bva (litL key n))) w) := by
  obtain ⟨z, hz0⟩ : ∃ z : List UInt8, z = List.replicate 32 0 := ⟨_, rfl⟩
  obtain ⟨b1, b2, b3, hb⟩ := three_blocks w (.cells (bva key) 43) (.cells (bva z) 47) (.cells (bva z) 47)
  have hz : ∀ W, (zeroValue 47).run Try.prog W = .ok (.agg (bva z)) W := fun _ => by rw [hz0]; kernel_rfl
  have Z0 := Lib.hid hz0
  have b1' : Blk _ _ _ _ := b1
  have c0 := b1'.cellb (k := 0) (by omega)
  have c1 := b1'.cellb (k := 1) (by omega)
  have c2 := b1'.cellb (k := 2) (by omega)
  obtain ⟨x0, hx0⟩ : ∃ x, x = key.getD 0 0 := ⟨_, rfl⟩
  obtain ⟨x1, hx1⟩ : ∃ x, x = key.getD 1 0 := ⟨_, rfl⟩
  obtain ⟨x2, hx2⟩ : ∃ x, x = key.getD 2 0 := ⟨_, rfl⟩
  rw [← hx0] at c0
  rw [← hx1] at c1
  rw [← hx2] at c2
  have X0 := Lib.hid hx0
  have X1 := Lib.hid hx1
  have X2 := Lib.hid hx2
  have B1 := Lib.hid b1'
  have B2 := Lib.hid (show Blk _ _ _ _ from b2)
  have B3 := Lib.hid (show Blk _ _ _ _ from b3)
  have BB := Lib.hid hb
  clear hz0 b1' b1 b2 b3 hb hx0 hx1 hx2
  go_enter Try.func84, Try.ntmps84
  go_wp2_with fail
  go_loopw [6, 7] (fun x i wr => ∃ k : Nat, k ≤ 32 ∧ i = .int .i64 k ∧ x = .int .u64 (litX key n k) ∧ Blk wr w.heap.size (bva key) 43 ∧ Blk wr (w.heap.size + 1) (bva z) 47 ∧ Blk wr (w.heap.size + 1 + 1) (bva (layTo 0 (fun i => litB (litX key n (i + 1))) 32 k)) 47 ∧ Below w.heap.size w wr) (fun _ i _ => 32 - (intOf i).toNat)
  case atStart => exact ⟨0, by omega, rfl, by rw [litX, ← X0.out, ← X1.out, ← X2.out]; rfl, B1.out, B2.out, by rw [layTo, ← Z0.out]; exact B3.out, BB.out⟩
  case round =>
    clear c0 c1 c2 hz B1 B2 B3 BB X0 X1 X2
    obtain ⟨k, hk2, rfl, rfl, B1, B2, B3, hbel⟩ := hrel
    by_cases hlt : k < 32
    · have k0 : (0 : Int) ≤ (k : Int) := by omega
      have k1 : (k : Int) < 32 := by omega
      obtain ⟨x, hx⟩ : ∃ x, x = key.getD k 0 := ⟨_, rfl⟩
      have C0 := B1.cellb (k := k) (by omega)
      rw [← hx] at C0
      obtain ⟨y, hy⟩ : ∃ y, y = (layTo 0 (fun i => litB (litX key n (i + 1))) 32 k).getD k 0 := ⟨_, rfl⟩
      have D0 := B3.cellb (k := k) (by rw [layTo_length]; omega)
      rw [← hy] at D0
      have D1 := B3.free k
      obtain ⟨X, hX⟩ : ∃ X, X = litX key n k := ⟨_, rfl⟩
      rw [← hX]
      have HX := Lib.hid hX
      have Hx := Lib.hid hx
      have G1 := Lib.hid B1
      have G2 := Lib.hid B2
      have G3 := Lib.hid B3
      clear hx hy hX B1 B2 B3
      go_wp2
      go_roundw
      case rel =>
        have hX1 : litX key n (k + 1) = IntKind.u64.wrap (IntKind.u64.wrap (IntKind.u64.wrap (IntKind.u64.wrap (X * 6364136223846793005) + 1442695040888963407) + n) + IntKind.u64.wrap ↑x.toNat) := by rw [litX, ← HX.out, ← Hx.out]; rfl
        exact ⟨k + 1, by omega, by go_num, by rw [hX1], by exact G1.out.other (by omega) _ _, by exact G2.out.other (by omega) _ _, by rw [layTo]; exact G3.out.setb k _ (int_eq (by rw [← litB_val, hX1]; rfl)), by exact hbel.setCell (by simp; omega) _⟩
      case measure => simp [intOf]; omega
    · obtain rfl : k = 32 := by omega
      rw [litL_lay] at B3
      have hi : (Try.prog.info? 47).map (·.size) = some (bva (litL key n)).size := by rw [bva_size, litL_length]; exact info_blk
      have Hi := Lib.hid hi
      have G2 := Lib.hid B2
      have G3 := Lib.hid B3
      clear hi B1 B2 B3
      go_wp2_with (first
        | (refine wpList_load_row rfl 47 (.tmp 5) rfl (w.heap.size + 1 + 1) rfl 47 (bva (litL key n)) (0, 0) _ G3.out Try.underlying47 rfl Hi.out ?_)
        | (refine wpList_store_row rfl 47 (.tmp 4) (.tmp 41) rfl (w.heap.size + 1) (bva (litL key n)) rfl rfl 47 (bva z) G2.out Hi.out (by rw [bva_size, bva_size, litL_length, Z0.out]; rfl) (bva_one _) ?_))
      exact bodyPost_ret (v := .agg (bva (litL key n))) (results_cell_row Try.results84 _ _ (w.heap.size + 1) 47 (bva (litL key n)) (0, 0) _ rfl (setRow_heap _ _ _ _ _ _ G2.out) Try.underlying47 rfl Hi.out) rfl ⟨rfl, below_setRow hbel (by omega) _⟩
end Go.Proofs.Ytippbjpodnnhiaa.Ci
/-
  The little cipher of layer 5's laws, as a cipher that a tree of keys is made of.
-/
namespace Go.Proofs.Ytippbjpodnnhiaa.Kc
open Go.RowKit Kg
attribute [local go_sem ↓] Go.wp_at_zero Go.wp_at_succ
def lftL (k : List UInt8) : List UInt8 := Ci.litL k 1099511627776
def rgtL (k : List UInt8) : List UInt8 := Ci.litL k 2199023255552
theorem lftL_length (k : List UInt8) : (lftL k).length = 32 := Ci.litL_length _ _
theorem rgtL_length (k : List UInt8) : (rgtL k).length = 32 := Ci.litL_length _ _
set_option maxRecDepth 100000 in
set_option maxHeartbeats 1600000 in
theorem litsplit_any (k : List UInt8) (hk : k.length = 32) (w : World) :
    Calls Try.prog 83 #[.agg (bva k)] w (RetB (.tuple #[.agg (bva (lftL k)), .agg (bva (rgtL k))]) w) := by
  obtain ⟨z, hz0⟩ : ∃ z : List UInt8, z = List.replicate 32 0 := ⟨_, rfl⟩
  obtain ⟨b1, b2, b3, hb⟩ := three_blocks w (.cells (bva k) 43) (.cells (bva z) 43) (.cells (bva z) 43)
  have hz : ∀ W, (zeroValue 43).run Try.prog W = .ok (.agg (bva z)) W := fun _ => by rw [hz0]; kernel_rfl
  have hy : ∀ W, (zeroValue 47).run Try.prog W = .ok (.agg (bva z)) W := fun _ => by rw [hz0]; kernel_rfl
  have Z3 : Hid (z.length = 32) := by show _ = _; rw [hz0]; rfl
  obtain ⟨p, hp⟩ : ∃ p, p = lftL k := ⟨_, rfl⟩
  obtain ⟨q, hq⟩ : ∃ q, q = rgtL k := ⟨_, rfl⟩
  have P3 : Hid (p.length = 32) := by show _ = _; rw [hp, lftL_length]
  have Q3 : Hid (q.length = 32) := by show _ = _; rw [hq, rgtL_length]
  have HIP : Hid ((Try.prog.info? 47).map (·.size) = some (bva p).size) := by rw [bva_size, P3.out]; exact Ci.info_blk
  have HIQ : Hid ((Try.prog.info? 47).map (·.size) = some (bva q).size) := by rw [bva_size, Q3.out]; exact Ci.info_blk
  have HKP : Hid ((Try.prog.info? 43).map (·.size) = some (bva p).size) := by rw [bva_size, P3.out]; exact info_keyL
  have HKQ : Hid ((Try.prog.info? 43).map (·.size) = some (bva q).size) := by rw [bva_size, Q3.out]; exact info_keyL
  have HCP := Lib.hid (show ∀ W, Calls Try.prog 84 #[.agg (bva k), .int .u64 1099511627776] W (RetB (.agg (bva p)) W) from fun W => by rw [hp]; exact Ci.litpad_any k hk _ W)
  have HCQ := Lib.hid (show ∀ W, Calls Try.prog 84 #[.agg (bva k), .int .u64 2199023255552] W (RetB (.agg (bva q)) W) from fun W => by rw [hq]; exact Ci.litpad_any k hk _ W)
  have HP := Lib.hid hp
  have HQ := Lib.hid hq
  have B1 := Lib.hid (show Blk _ _ _ _ from b1)
  have B2 := Lib.hid (show Blk _ _ _ _ from b2)
  have B3 := Lib.hid (show Blk _ _ _ _ from b3)
  have BB := Lib.hid hb
  have HI : Hid ((Try.prog.info? 43).map (·.size) = some (bva k).size) := by rw [bva_size, hk]; exact info_keyL
  clear hz0 b1 b2 b3 hb hk hp hq
  go_enter Try.func83, Try.ntmps83
  go_wp2_with (refine wpList_load_row rfl 43 (.tmp 1) rfl w.heap.size rfl 43 (bva k) (0, 0) _ ?hg Try.underlying43 rfl HI.out ?_; case hg => exact B1.out)
  refine (HCP.out _).mono ?_
  rintro e w2 ⟨rfl, bw⟩
  have C1 := Lib.hid (B1.out.below bw)
  have C2 := Lib.hid (B2.out.below bw)
  have C3 := Lib.hid (B3.out.below bw)
  have CB := Lib.hid (BB.out.trans (bw.mono BB.out.size))
  have hw2 : w.heap.size + 1 + 1 < w2.heap.size := C3.out.lt
  clear bw B1 B2 B3 BB
  go_wp2_with (first
    | (refine wpList_store_row rfl 47 (.tmp 4) (.tmp 7) rfl w2.heap.size (bva p) rfl rfl 47 (bva z) (heap_alloc_new _ _) HIP.out (by simp only [bva_size, P3.out, Z3.out]) (bva_one _) ?_
       generalize hwx : World.setRow _ _ _ = wx
       have e1 : Blk wx w.heap.size (bva k) 43 := by rw [← hwx]; exact blk_row (blk_oldL C1.out) (by omega)
       have e2 : Blk wx (w.heap.size + 1) (bva z) 43 := by rw [← hwx]; exact blk_row (blk_oldL C2.out) (by omega)
       have e3 : Blk wx (w.heap.size + 1 + 1) (bva z) 43 := by rw [← hwx]; exact blk_row (blk_oldL C3.out) (by omega)
       have ex : Blk wx w2.heap.size (bva p) 47 := by rw [← hwx]; exact setRow_heap _ _ _ _ _ _ (heap_alloc_new _ _)
       have eb : Below w.heap.size w wx := by rw [← hwx]; exact below_setRow (CB.out.alloc CB.out.size _) CB.out.size _
       have E1 := Lib.hid e1
       have E2 := Lib.hid e2
       have E3 := Lib.hid e3
       have EX := Lib.hid ex
       have EB := Lib.hid eb
       clear hwx e1 e2 e3 ex eb C1 C2 C3 CB)
    | (refine wpList_load_row rfl 43 (.tmp 1) rfl w.heap.size rfl 43 (bva k) (0, 0) _ ?hg Try.underlying43 rfl HI.out ?_; case hg => exact E1.out))
  refine (HCQ.out _).mono ?_
  rintro e w3 ⟨rfl, bw⟩
  have D1 := Lib.hid (E1.out.below bw)
  have D2 := Lib.hid (E2.out.below bw)
  have D3 := Lib.hid (E3.out.below bw)
  have DX := Lib.hid (EX.out.below bw)
  have DB := Lib.hid (EB.out.trans (bw.mono EB.out.size))
  have hw3 : w2.heap.size < w3.heap.size := DX.out.lt
  clear bw E1 E2 E3 EX EB
  go_wp2_with (first
    | (refine wpList_store_row rfl 47 (.tmp 5) (.tmp 9) rfl w3.heap.size (bva q) rfl rfl 47 (bva z) (heap_alloc_new _ _) HIQ.out (by simp only [bva_size, Q3.out, Z3.out]) (bva_one _) ?_
       generalize hwy : World.setRow _ _ _ = wy
       have e2 : Blk wy (w.heap.size + 1) (bva z) 43 := by rw [← hwy]; exact blk_row (blk_oldL D2.out) (by omega)
       have e3 : Blk wy (w.heap.size + 1 + 1) (bva z) 43 := by rw [← hwy]; exact blk_row (blk_oldL D3.out) (by omega)
       have ex : Blk wy w2.heap.size (bva p) 47 := by rw [← hwy]; exact blk_row (blk_oldL DX.out) (by omega)
       have ey : Blk wy w3.heap.size (bva q) 47 := by rw [← hwy]; exact setRow_heap _ _ _ _ _ _ (heap_alloc_new _ _)
       have eb : Below w.heap.size w wy := by rw [← hwy]; exact below_setRow (DB.out.alloc DB.out.size _) DB.out.size _
       have HS := Lib.hid (show Blk wy.drew (w.heap.size + 1) (bva z) 43 ∧ Blk wy.drew (w.heap.size + 1 + 1) (bva z) 43 ∧ Blk wy.drew w2.heap.size (bva p) 47 ∧ Blk wy.drew w3.heap.size (bva q) 47 ∧ Below w.heap.size w wy.drew from ⟨e2, e3, ex, ey, eb.drew⟩)
       clear hwy e2 e3 ex ey eb D1 D2 D3 DX DB))
  refine wp_region_held_drew (S := fun w' => (∃ l : List UInt8, l.length = 32 ∧ Blk w' (w.heap.size + 1) (bva l) 43) ∧ (∃ l : List UInt8, l.length = 32 ∧ Blk w' (w.heap.size + 1 + 1) (bva l) 43) ∧ Blk w' w2.heap.size (bva p) 47 ∧ Blk w' w3.heap.size (bva q) 47 ∧ Below w.heap.size w w') (by kernel_rfl) ⟨⟨z, Z3.out, HS.out.1⟩, ⟨z, Z3.out, HS.out.2.1⟩, HS.out.2.2⟩ (fun hh => ?_)
  have HH := Lib.hid hh
  clear hh
  refine wpAnyH_take (i := 0) (v := .agg (bva p)) rfl (by kernel_rfl) (by kernel_rfl) (by kernel_rfl) (fun _ _ _ h => h) (Or.inl ⟨by rfl, fun w' hw' => ?q0⟩) HH.out ?_
  case q0 => exact exec_load 47 (.tmp 4) rfl rfl hw'.2.2.1 Try.underlying47 rfl HIP.out
  refine wpAnyH_take (i := 1) (v := .agg (bva q)) rfl (by kernel_rfl) (by kernel_rfl) (by kernel_rfl) (fun _ _ _ h => h) (Or.inl ⟨by rfl, fun w' hw' => ?q1⟩) HH.out ?_
  case q1 => exact exec_load 47 (.tmp 5) rfl rfl hw'.2.2.2.1 Try.underlying47 rfl HIQ.out
  refine wpAnyH_ready (rs := [2]) (by kernel_rfl) (by simp) (AllReadyH.cons rfl (fun K hK => ?_) AllReadyH.nil)
  rw [if_pos (by rfl)]
  refine wp_store_row 43 (.tmp 2) (.tmp 10) rfl (w.heap.size + 1) (bva p) rfl rfl 43 (bva z) HS.out.1 HKP.out (by simp only [bva_size, P3.out, Z3.out]) (bva_one _) ?_
  have u1 : Blk (wy.drew.setRow (w.heap.size + 1) (bva p)) (w.heap.size + 1) (bva p) 43 := setRow_heap _ _ _ _ _ _ HS.out.1
  have u2 : Blk (wy.drew.setRow (w.heap.size + 1) (bva p)) (w.heap.size + 1 + 1) (bva z) 43 := blk_row HS.out.2.1 (by omega)
  have u3 : Blk (wy.drew.setRow (w.heap.size + 1) (bva p)) w2.heap.size (bva p) 47 := blk_row HS.out.2.2.1 (by omega)
  have u4 : Blk (wy.drew.setRow (w.heap.size + 1) (bva p)) w3.heap.size (bva q) 47 := blk_row HS.out.2.2.2.1 (by omega)
  have ub : Below w.heap.size w (wy.drew.setRow (w.heap.size + 1) (bva p)) := below_setRow HS.out.2.2.2.2 (by omega) _
  refine hK.out _ _ ⟨⟨p, P3.out, u1⟩, ⟨z, Z3.out, u2⟩, u3, u4, ub⟩ (fun _ => ?_)
  generalize hw6 : wy.drew.setRow _ _ = w6
  rw [hw6] at u1 u2 u3 u4 ub
  have U1 := Lib.hid u1
  have U2 := Lib.hid u2
  have U3 := Lib.hid u3
  have U4 := Lib.hid u4
  have UB := Lib.hid ub
  clear u1 u2 u3 u4 ub hw6 hK K HH HS
  refine wpAnyH_ready (rs := [3]) (by kernel_rfl) (by simp) (AllReadyH.cons rfl (fun K hK => ?_) AllReadyH.nil)
  rw [if_pos (by rfl)]
  refine wp_store_row 43 (.tmp 3) (.tmp 11) rfl (w.heap.size + 1 + 1) (bva q) rfl rfl 43 (bva z) U2.out HKQ.out (by simp only [bva_size, Q3.out, Z3.out]) (bva_one _) ?_
  have v1 : Blk (w6.setRow (w.heap.size + 1 + 1) (bva q)) (w.heap.size + 1) (bva p) 43 := blk_row U1.out (by omega)
  have v2 : Blk (w6.setRow (w.heap.size + 1 + 1) (bva q)) (w.heap.size + 1 + 1) (bva q) 43 := setRow_heap _ _ _ _ _ _ U2.out
  have v3 : Blk (w6.setRow (w.heap.size + 1 + 1) (bva q)) w2.heap.size (bva p) 47 := blk_row U3.out (by omega)
  have v4 : Blk (w6.setRow (w.heap.size + 1 + 1) (bva q)) w3.heap.size (bva q) 47 := blk_row U4.out (by omega)
  have vb : Below w.heap.size w (w6.setRow (w.heap.size + 1 + 1) (bva q)) := below_setRow UB.out (by omega) _
  refine hK.out _ _ ⟨⟨p, P3.out, v1⟩, ⟨q, Q3.out, v2⟩, v3, v4, vb⟩ (fun _ => ?_)
  have V1 := Lib.hid v1
  have V2 := Lib.hid v2
  have VB := Lib.hid vb
  clear v1 v2 v3 v4 vb U1 U2 U3 U4 UB hK K
  refine wpAnyH_done (by kernel_rfl) ?_ _
  go_wp2
  exact bodyPost_ret (v := .tuple #[.agg (bva p), .agg (bva q)]) (results_cells2 Try.results83 _ _ (w.heap.size + 1) (w.heap.size + 1 + 1) 43 43 (bva p) (bva q) _ rfl rfl V1.out V2.out Try.underlying43 rfl HKP.out HKQ.out) rfl ⟨by rw [HP.out, HQ.out], VB.out⟩
set_option maxRecDepth 100000 in
set_option maxHeartbeats 1600000 in
theorem lits_any (X : Array Value) (k : List UInt8) (hk : k.length = 32) (w : World) :
    Calls Try.prog 82 #[.agg X, .agg (bva k)] w (RetB (.tuple #[.agg (bva (lftL k)), .agg (bva (rgtL k))]) w) := by
  obtain ⟨z, hz0⟩ : ∃ z : List UInt8, z = List.replicate 32 0 := ⟨_, rfl⟩
  obtain ⟨b1, b2, b3, b4, hb⟩ := four_blocks w (.cells X 49) (.cells (bva k) 43) (.cells (bva z) 43) (.cells (bva z) 43)
  have hz : ∀ W, (zeroValue 43).run Try.prog W = .ok (.agg (bva z)) W := fun _ => by rw [hz0]; kernel_rfl
  have Z3 : Hid (z.length = 32) := by show _ = _; rw [hz0]; rfl
  obtain ⟨p, hp⟩ : ∃ p, p = lftL k := ⟨_, rfl⟩
  obtain ⟨q, hq⟩ : ∃ q, q = rgtL k := ⟨_, rfl⟩
  have P3 : Hid (p.length = 32) := by show _ = _; rw [hp, lftL_length]
  have Q3 : Hid (q.length = 32) := by show _ = _; rw [hq, rgtL_length]
  have HKP : Hid ((Try.prog.info? 43).map (·.size) = some (bva p).size) := by rw [bva_size, P3.out]; exact info_keyL
  have HKQ : Hid ((Try.prog.info? 43).map (·.size) = some (bva q).size) := by rw [bva_size, Q3.out]; exact info_keyL
  have HCS := Lib.hid (show ∀ W, Calls Try.prog 83 #[.agg (bva k)] W (RetB (.tuple #[.agg (bva p), .agg (bva q)]) W) from fun W => by rw [hp, hq]; exact litsplit_any k hk W)
  have HP := Lib.hid hp
  have HQ := Lib.hid hq
  have B2 := Lib.hid (show Blk _ _ _ _ from b2)
  have B3 := Lib.hid (show Blk _ _ _ _ from b3)
  have B4 := Lib.hid (show Blk _ _ _ _ from b4)
  have BB := Lib.hid hb
  have HI : Hid ((Try.prog.info? 43).map (·.size) = some (bva k).size) := by rw [bva_size, hk]; exact info_keyL
  clear hz0 b1 b2 b3 b4 hb hk hp hq
  go_enter Try.func82, Try.ntmps82
  go_wp2_with (refine wpList_load_row rfl 43 (.tmp 3) rfl (w.heap.size + 1) rfl 43 (bva k) (0, 0) _ ?hg Try.underlying43 rfl HI.out ?_; case hg => exact B2.out)
  refine (HCS.out _).mono ?_
  rintro e w2 ⟨rfl, bw⟩
  have C3 := Lib.hid (B3.out.below bw)
  have C4 := Lib.hid (B4.out.below bw)
  have CB := Lib.hid (BB.out.trans (bw.mono BB.out.size))
  have hw2 : w.heap.size + 1 + 1 + 1 < w2.heap.size := C4.out.lt
  clear bw B2 B3 B4 BB
  go_wp2_with (first
    | (refine wpList_store_row rfl 43 (.tmp 4) (.tmp 8) rfl (w.heap.size + 1 + 1) (bva p) rfl rfl 43 (bva z) C3.out HKP.out (by simp only [bva_size, P3.out, Z3.out]) (bva_one _) ?_
       generalize hwx : World.setRow _ _ _ = wx
       have e3 : Blk wx (w.heap.size + 1 + 1) (bva p) 43 := by rw [← hwx]; exact setRow_heap _ _ _ _ _ _ C3.out
       have e4 : Blk wx (w.heap.size + 1 + 1 + 1) (bva z) 43 := by rw [← hwx]; exact blk_row C4.out (by omega)
       have eb : Below w.heap.size w wx := by rw [← hwx]; exact below_setRow CB.out (by omega) _
       have E3 := Lib.hid e3
       have E4 := Lib.hid e4
       have EB := Lib.hid eb
       clear hwx e3 e4 eb C3 C4 CB)
    | (refine wpList_store_row rfl 43 (.tmp 5) (.tmp 9) rfl (w.heap.size + 1 + 1 + 1) (bva q) rfl rfl 43 (bva z) E4.out HKQ.out (by simp only [bva_size, Q3.out, Z3.out]) (bva_one _) ?_
       generalize hwy : World.setRow _ _ _ = wy
       have e3 : Blk wy (w.heap.size + 1 + 1) (bva p) 43 := by rw [← hwy]; exact blk_row E3.out (by omega)
       have e4 : Blk wy (w.heap.size + 1 + 1 + 1) (bva q) 43 := by rw [← hwy]; exact setRow_heap _ _ _ _ _ _ E4.out
       have eb : Below w.heap.size w wy := by rw [← hwy]; exact below_setRow EB.out (by omega) _
       have V1 := Lib.hid e3
       have V2 := Lib.hid e4
       have VB := Lib.hid eb
       clear hwy e3 e4 eb E3 E4 EB))
  exact bodyPost_ret (v := .tuple #[.agg (bva p), .agg (bva q)]) (results_cells2 Try.results82 _ _ (w.heap.size + 1 + 1) (w.heap.size + 1 + 1 + 1) 43 43 (bva p) (bva q) _ rfl rfl V1.out V2.out Try.underlying43 rfl HKP.out HKQ.out) rfl ⟨by rw [HP.out, HQ.out], VB.out⟩
theorem lit_method (x : Array Value) (fuel : Nat) (W : World) : (method (fuel + 1) 49 (.agg x) "Split").run Try.prog W = .ok (82, .agg x) W := by kernel_rfl
theorem lit_calls (args : Array Value) (W : World) : (callFunc 82 args).run Try.prog W = .ok (.enter 82 args) W := by kernel_rfl
/-- The cells of a Lit that nobody has filled. -/
def zeroLit : Array Value := bva (List.replicate 32 0) ++ #[.int .u64 0] ++ bva (List.replicate 32 0)
/-- The little cipher. -/
def litC : Ciph := ⟨49, .agg zeroLit, 82, lftL, rgtL, lftL_length, rgtL_length, fun fuel W => lit_method zeroLit fuel W, fun args W => lit_calls args W, fun k hk W => lits_any zeroLit k hk W⟩
end Go.Proofs.Ytippbjpodnnhiaa.Kc
/-
  The contract of the tree's Puncture.
-/
namespace Go.Proofs.Ytippbjpodnnhiaa.Kg
open Go.RowKit
variable {ci : Ciph}
attribute [local go_sem ↓] Go.wp_at_zero Go.wp_at_succ
/-- What a puncture leaves: the tree without the leaf; all else as it was, but for the tree's own blocks. -/
def RetPun (ci : Ciph) (g : Nat) (l : List Nd) (m : Int) (F : Nat → Prop) (w : World) (e : Ending) (w' : World) : Prop :=
  e = .returned (.bool (hasI l m)) ∧ ∃ F', Tr ci w' g (punL ci l m) F' ∧ But F w w' ∧ ∀ k, F' k → F k ∨ w.heap.size ≤ k
theorem punL_hasnt {l : List Nd} {m : Int} (h : hasI l m = false) : punL ci l m = l := by
  refine punL_not (ci := ci) fun x hx => ?_
  rw [hasI, List.any_eq_false] at h
  have := h x hx
  simpa using this
set_option maxRecDepth 100000 in
set_option maxHeartbeats 1600000 in
theorem tpuncture_any (g : Nat) (l : List Nd) (F : Nat → Prop) (m : Int) (w : World) (h : Tr ci w g l F) :
    Calls Try.prog 20 #[.pointer (some ⟨g, 0, none⟩), .int .u64 m] w (RetPun ci g l m F w) := by
  obtain ⟨A, n, c, ht, hFg, hFo, hFl⟩ := h
  have HT := Lib.hid ht
  have HFG := Lib.hid hFg
  have HFO := Lib.hid hFo
  have HFL := Lib.hid hFl
  clear ht hFg hFo hFl
  go_enter Try.func20, Try.ntmps20
  go_wp2_with fail
  refine (find_any g A n c l m _ HT.out).mono ?_
  rintro e w2 ⟨i, b, rfl, hf, bw⟩
  have hhas := hasI_found HT.out.ok hf
  have HT2 := Lib.hid (HT.out.below bw)
  have HB2 := Lib.hid bw
  have HH := Lib.hid hhas
  have HF := Lib.hid hf
  clear bw hhas hf
  cases b with
  | false =>
    go_wp2_with fail
    go_ret
    have e0 : hasI l m = false := HH.out.symm
    refine ⟨by rw [e0]; rfl, F, ?_, But.of_below HB2.out (fun k h1 h2 => by omega), fun k hk => .inl hk⟩
    rw [punL_hasnt (ci := ci) e0]
    exact ⟨A, n, c, HT2.out, HFG.out, HFO.out, fun k hk => Nat.lt_of_lt_of_le (HFL.out k hk) HB2.out.size⟩
  | true =>
    obtain ⟨x, hx, hin, _⟩ := found_yes HT.out.ok HF.out
    have hil : i < l.length := (List.getElem?_eq_some_iff.1 hx).1
    have hin' : i < n := by rw [← HT.out.len]; exact hil
    have hxe : l[i] = x := (List.getElem?_eq_some_iff.1 hx).2
    have hpun := punL_found (ci := ci) HT.out.ok HF.out hx
    have hxo : okH x := by rw [← hxe]; exact (okS_mem HT.out.ok _ (List.getElem_mem hil)).1
    obtain ⟨ad, hA, hbl, hcell⟩ := rd_node HT2.out.rd HT2.out.len3 hil
    obtain ⟨h, rfl⟩ : ∃ h, A = some ⟨h, 0, none⟩ := by
      rcases own_addrN HT.out.own with ⟨h1, h2, _⟩ | h1
      · omega
      · exact h1
    injection hA with hA
    subst hA
    rw [hxe] at hcell
    have c1 := HT2.out.c1
    have HX := Lib.hid hxo
    have HIN := Lib.hid hin
    have HP := Lib.hid hpun
    have hcell' : ∀ j v, (ndV x)[j]? = some v → w2.cell? ((⟨h, i * 34, none⟩ : Addr).add j) = some v := fun j v hv => by
      have := hcell j v hv
      rwa [show ((⟨h, 0, none⟩ : Addr).add (i * 34)) = ⟨h, i * 34, none⟩ by rw [Addr.add_mid, Nat.zero_add]] at this
    have HC := Lib.hid hcell'
    have HI : Hid ((Try.prog.info? 61).map (·.size) = some (ndV x).length) := by rw [ndV_length hxo.2.2.2.2.2]; exact info_held
    have k0 : (0 : Int) ≤ (i : Int) := by omega
    have k1 : (i : Int) < (n : Int) := by omega
    have hfew := HT.out.few
    clear hx hin hxe hpun hxo hcell hcell' hbl
    go_wp2_with (refine wpList_load_at rfl 61 (.tmp 22) rfl ⟨h, i * 34, none⟩ rfl HC.out Try.underlying61 rfl HI.out ?_
                 change wpList _ _ _ _ (Act.put _ _ (.agg (ndC x))) _)
    refine (besides_any g x m _ HX.out HIN.out HT2.out.c0).mono ?_
    rintro e w3 ⟨A3, n3, c3, rfl, ho3, bw3⟩
    have ht3 := HT2.out.below bw3
    have hn3 : n3 ≤ 131072 := by
      have h1 := ho3.1
      rw [nvs_length (woL_len (ci := ci) _ x m HX.out.2.2.2.2.2)] at h1
      have h2 := woL_count (ci := ci) (17 - x.d).toNat x m
      have h3 : 2 ^ (17 - x.d).toNat ≤ 2 ^ 17 := Nat.pow_le_pow_right (by omega) (by have := HX.out.1; omega)
      omega
    have HT3 := Lib.hid ht3
    have HO3 := Lib.hid ho3
    have HB3 := Lib.hid (HB2.out.trans (bw3.mono HB2.out.size))
    have hgh : h ≠ g := fun e => HT.out.apart (by rw [e]; rfl)
    have c1 := ht3.c1
    have ei : IntKind.i64.wrap ((i : Int) + 1) = (i : Int) + 1 := IntWalk.i64_in _ (by omega)
    have hvl : (woL ci (17 - x.d).toNat x m).length = n3 := by
      have h1 := ho3.1
      rw [nvs_length (woL_len (ci := ci) _ x m HX.out.2.2.2.2.2)] at h1
      omega
    have HVL := Lib.hid hvl
    clear ho3 bw3 ht3 HT2 HC hvl
    go_wp2_with fail
    refine (delete_any h n c i l _ HT3.out.len HT3.out.len3 hin' (own_moreN HT3.out.own (Nat.zero_le _))).mono ?_
    rintro e w4 ⟨rfl, ho4, hb4⟩
    have hg4 : Blk w4 g #[ci.v, .slice (some ⟨h, 0, none⟩) n c] 85 := HT3.out.blk.but hb4 (fun e => hgh e.symm)
    have fr := hg4.free 1
    have hg5 : Blk (w4.setCell ⟨g, 1, none⟩ (.slice (some ⟨h, 0, none⟩) (n - 1) c)) g #[ci.v, .slice (some ⟨h, 0, none⟩) (n - 1) c] 85 := heap_setCell_same _ _ _ _ _ _ hg4
    have c4 : w4.cell? ⟨g, 1, none⟩ = some (.slice (some ⟨h, 0, none⟩) n c) := by rw [hg4.cell]; rfl
    have hb5 : But F w3 (w4.setCell ⟨g, 1, none⟩ (.slice (some ⟨h, 0, none⟩) (n - 1) c)) := (hb4.mono (fun k hk => by rw [hk]; exact HFO.out h rfl)).setCell (.inl HFG.out) _
    have ho5 : (w4.setCell ⟨g, 1, none⟩ (.slice (some ⟨h, 0, none⟩) (n - 1) c)).ownsRow 0 61 34 (.slice (some ⟨h, 0, none⟩) (n - 1) c) (n - 1) (nvs (l.take i ++ l.drop (i + 1))) :=
      Own.but (S := (· = g)) ho4 (But.setCell (S := (· = g)) (But.refl w4) (.inl rfl) _) (fun k hk e => by injection hk with hk; exact hgh (hk.trans e))
    have hv5 : (w4.setCell ⟨g, 1, none⟩ (.slice (some ⟨h, 0, none⟩) (n - 1) c)).ownsRow w2.heap.size 61 34 (.slice A3 n3 c3) n3 (nvs (woL ci (17 - x.d).toNat x m)) :=
      Own.but HO3.out hb5 (fun k hk hF => by have h1 := (own_loN HO3.out k hk).1; have h2 := HFL.out k hF; have h3 := HB2.out.size; omega)
    have G5 := Lib.hid hg5
    have B5 := Lib.hid hb5
    have O5 := Lib.hid ho5
    have V5 := Lib.hid hv5
    clear hg4 hg5 hb4 hb5 ho4 ho5 hv5 c1
    go_wp2_with fail
    have hl3 : ∀ z ∈ l.take i ++ l.drop (i + 1), z.s.length = 32 := fun z hz => by
      rcases List.mem_append.1 hz with hz | hz
      · exact HT.out.len3 z (List.mem_of_mem_take hz)
      · exact HT.out.len3 z (List.mem_of_mem_drop hz)
    have hln : (l.take i ++ l.drop (i + 1)).length = n - 1 := by
      have := HT.out.len
      rw [List.length_append, List.length_take, List.length_drop]; omega
    refine (insert_any (some ⟨h, 0, none⟩) A3 (n - 1) c i n3 c3 _ _ _ hln hl3 (by omega) O5.out (own_moreN V5.out (Nat.zero_le _)) HVL.out (woL_len (ci := ci) _ x m HX.out.2.2.2.2.2) (by omega)
      (fun k hk hk' => by have h1 := (own_loN HO3.out k hk').1; have h2 := HFL.out k (HFO.out k hk); have h3 := HB2.out.size; omega)).mono ?_
    rintro e w6 ⟨A6, c6, rfl, ho6, hb6, hk6⟩
    have hil' : (l.take i).length = i := by rw [List.length_take]; omega
    have hpl : (l.take i ++ l.drop (i + 1)).take i ++ woL ci (17 - x.d).toNat x m ++ (l.take i ++ l.drop (i + 1)).drop i = punL ci l m := by
      rw [HP.out, List.take_left' hil', List.drop_left' hil']
    rw [hpl] at ho6
    have hg6 : Blk w6 g #[ci.v, .slice (some ⟨h, 0, none⟩) (n - 1) c] 85 := G5.out.but hb6 (fun e => hgh (by injection e))
    have fr6 := hg6.free 1
    have c6' : w6.cell? ⟨g, 1, none⟩ = some (.slice (some ⟨h, 0, none⟩) (n - 1) c) := by rw [hg6.cell]; rfl
    have hg7 : Blk (w6.setCell ⟨g, 1, none⟩ (.slice A6 (n - 1 + n3) c6)) g #[ci.v, .slice A6 (n - 1 + n3) c6] 85 := heap_setCell_same _ _ _ _ _ _ hg6
    have hag : (Value.slice A6 (n - 1 + n3) c6).ownBlock ≠ some g := fun e => by
      rcases hk6 g e with h1 | h1
      · exact hgh (by injection h1)
      · have := G5.out.lt; omega
    have hb7 : But F w3 (w6.setCell ⟨g, 1, none⟩ (.slice A6 (n - 1 + n3) c6)) :=
      (B5.out.trans (hb6.mono (fun k hk => HFO.out k hk))).setCell (.inl HFG.out) _
    have ho7 : (w6.setCell ⟨g, 1, none⟩ (.slice A6 (n - 1 + n3) c6)).ownsRow 0 61 34 (.slice A6 (n - 1 + n3) c6) (n - 1 + n3) (nvs (punL ci l m)) :=
      Own.but (S := (· = g)) ho6 (But.setCell (S := (· = g)) (But.refl w6) (.inl rfl) _) (fun k hk e => hag (by rw [hk, e]))
    have hpok := punL_ok (ci := ci) m HT.out.ok
    have hpn : (punL ci l m).length = n - 1 + n3 := by
      have h1 := ho7.1
      rw [nvs_length (okS_len hpok)] at h1; omega
    have hB7 : But F w (w6.setCell ⟨g, 1, none⟩ (.slice A6 (n - 1 + n3) c6)) := (But.of_below HB3.out (fun k h1 h2 => by omega)).trans hb7
    have hs7 : w.heap.size ≤ (w4.setCell ⟨g, 1, none⟩ (.slice (some ⟨h, 0, none⟩) (n - 1) c)).heap.size := Nat.le_trans HB3.out.size B5.out.size
    have ho7l := fun k hk => (own_loN ho7 k hk).2
    have hg7l := hg7.lt
    have HF' : Hid (∀ k, (k = g ∨ (Value.slice A6 (n - 1 + n3) c6).ownBlock = some k) → (F k ∨ w.heap.size ≤ k)) := fun k hk => by
      rcases hk with rfl | hk
      · exact .inl HFG.out
      · rcases hk6 k hk with h1 | h1
        · exact .inl (HFO.out k h1)
        · exact .inr (Nat.le_trans hs7 h1)
    have HTR : Hid (Tr ci (w6.setCell ⟨g, 1, none⟩ (.slice A6 (n - 1 + n3) c6)) g (punL ci l m) (fun k => k = g ∨ (Value.slice A6 (n - 1 + n3) c6).ownBlock = some k)) :=
      ⟨A6, n - 1 + n3, c6, ⟨hg7, ho7, hpn, hpok, hag⟩, .inl rfl, fun k hk => .inr hk, fun k hk => by
        rcases hk with rfl | hk
        · exact hg7l
        · exact ho7l k hk⟩
    have HB7 := Lib.hid hB7
    clear ho6 hb6 hk6 hg6 hg7 hag hb7 ho7 hpok hpn hB7 ho7l hg7l hpl hs7 hl3 hln
    go_wp2_with fail
    go_ret
    exact ⟨by rw [← HH.out]; rfl, _, HTR.out, HB7.out, HF'.out⟩
end Go.Proofs.Ytippbjpodnnhiaa.Kg
