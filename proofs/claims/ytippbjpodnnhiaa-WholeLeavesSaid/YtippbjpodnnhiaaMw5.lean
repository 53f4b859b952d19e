/-
  Texts of this seat, one behind the other: KgHas, KgLittle, KgBuildH.
-/
import Derived.Test.YtippbjpodnnhiaaMw4
/-
  The contracts of the tree's find and Has, of a tree and of none.
-/
namespace Go.Proofs.Ytippbjpodnnhiaa.Kg
open Go.RowKit
variable {ci : Ciph}
attribute [local go_sem ↓] Go.wp_at_zero Go.wp_at_succ
/-- A tree at block g whose held nodes are l, in a row of their own. -/
structure TrA (ci : Ciph) (w : World) (g : Nat) (A : Option Addr) (n c : Nat) (l : List Nd) : Prop where
  blk : Blk w g #[ci.v, .slice A n c] 85
  own : w.ownsRow 0 61 34 (.slice A n c) n (nvs l)
  len : l.length = n
  ok : okS 0 l
  apart : (Value.slice A n c).ownBlock ≠ some g
section
variable {w w' : World} {g n c : Nat} {A : Option Addr} {l : List Nd} {S : Nat → Prop}
theorem TrA.few (h : TrA ci w g A n c l) : n ≤ 131072 := by rw [← h.len]; exact okS_few h.ok
theorem TrA.rd (h : TrA ci w g A n c l) : Rd w.heap.size w A (nvs l) := Rd.ownN h.own
theorem TrA.len3 (h : TrA ci w g A n c l) : ∀ x ∈ l, x.s.length = 32 := okS_len h.ok
theorem TrA.but (h : TrA ci w g A n c l) (hb : But S w w') (hg : ¬ S g) (hv : ∀ k, (Value.slice A n c).ownBlock = some k → ¬ S k) : TrA ci w' g A n c l :=
  ⟨h.blk.but hb hg, Own.but h.own hb hv, h.len, h.ok, h.apart⟩
theorem TrA.below (h : TrA ci w g A n c l) (hb : Below w.heap.size w w') : TrA ci w' g A n c l :=
  ⟨h.blk.below hb, own_belowN h.own hb, h.len, h.ok, h.apart⟩
theorem TrA.c0 (h : TrA ci w g A n c l) : w.cell? ⟨g, 0, none⟩ = some ci.v := by rw [h.blk.cell]; rfl
theorem TrA.c1 (h : TrA ci w g A n c l) : w.cell? ⟨g, 1, none⟩ = some (.slice A n c) := by rw [h.blk.cell]; rfl
end
set_option maxRecDepth 100000 in
set_option maxHeartbeats 800000 in
theorem find_any (g : Nat) (A : Option Addr) (n c : Nat) (l : List Nd) (m : Int) (w : World) (h : TrA ci w g A n c l) :
    Calls Try.prog 34 #[.pointer (some ⟨g, 0, none⟩), .int .u64 m] w (fun e w' => ∃ i b, e = .returned (.tuple #[.int .i64 (i : Nat), .bool b]) ∧ Found l m i b ∧ Below w.heap.size w w') := by
  have c1 := h.c1
  have H := Lib.hid h
  clear h
  go_enter Try.func34, Try.ntmps34
  go_wp2_with fail
  refine (search_any A n c l 0 m _ H.out.len H.out.ok (Nat.le_refl _) H.out.rd (by have := H.out.few; omega)).mono ?_
  rintro e w2 ⟨i, b, rfl, hf, bw⟩
  have HF := Lib.hid hf
  have HB := Lib.hid bw
  clear hf bw
  go_wp2_with fail
  go_ret2
  exact ⟨i, b, rfl, HF.out, HB.out⟩
theorem find_nil (m : Int) (w : World) :
    Calls Try.prog 34 #[.pointer none, .int .u64 m] w (fun e w' => e = .returned (.tuple #[.int .i64 0, .bool false]) ∧ w' = w) := by
  go_enter Try.func34, Try.ntmps34
  go_wp2_with fail
  go_ret2
  exact ⟨rfl, rfl⟩
theorem found_not {e : Int} {l : List Nd} {m : Int} {i : Nat} (hl : okS e l) (h : Found l m i false) : ∀ x ∈ l, inI x m = false := by
  intro x hx
  obtain ⟨k, hk⟩ := List.getElem?_of_mem hx
  rw [inI_not]
  rcases Nat.lt_or_ge k i with h1 | h1
  · exact .inr (h.2.1 k x h1 hk)
  · left
    have hi : i < l.length := Nat.lt_of_le_of_lt h1 (List.getElem?_eq_some_iff.1 hk).1
    have h4 := h.2.2.2
    rw [List.getElem?_eq_getElem hi] at h4
    have h5 : m < l[i].a := by have := h4.symm; simp at this; exact this
    rcases Nat.lt_or_ge i k with h6 | h6
    · have := okS_at hl i k _ x h6 (List.getElem?_eq_getElem hi) hk
      have := (okS_mem hl _ (List.getElem_mem hi)).1.many
      omega
    · obtain rfl : k = i := by omega
      rw [List.getElem?_eq_getElem hi] at hk
      injection hk with hk
      rw [← hk]; exact h5
theorem found_yes {e : Int} {l : List Nd} {m : Int} {i : Nat} (hl : okS e l) (h : Found l m i true) : ∃ x, l[i]? = some x ∧ inI x m = true ∧ (∀ y ∈ l.take i, inI y m = false) ∧ (∀ y ∈ l.drop (i + 1), inI y m = false) := by
  have h4 := h.2.2.2
  cases hx : l[i]? with
  | none => rw [hx] at h4; simp at h4
  | some x =>
    rw [hx] at h4
    have h5 : x.a ≤ m := by have := h4.symm; simpa using this
    have h6 := h.2.2.1 i x (Nat.le_refl _) hx
    refine ⟨x, rfl, inI_iff.2 ⟨h5, h6⟩, fun y hy => ?_, fun y hy => ?_⟩
    · obtain ⟨k, hk⟩ := List.getElem?_of_mem hy
      rw [List.getElem?_take] at hk
      split at hk
      · rename_i hki
        rw [inI_not]; exact .inr (h.2.1 k y hki hk)
      · cases hk
    · obtain ⟨k, hk⟩ := List.getElem?_of_mem hy
      rw [List.getElem?_drop] at hk
      have := okS_at hl i (i + 1 + k) x y (by omega) hx hk
      rw [inI_not]; left; omega
theorem hasI_found {e : Int} {l : List Nd} {m : Int} {i : Nat} {b : Bool} (hl : okS e l) (h : Found l m i b) : b = hasI l m := by
  cases b with
  | false =>
    have := found_not hl h
    symm
    rw [hasI, List.any_eq_false]
    intro x hx; rw [this x hx]; simp
  | true =>
    obtain ⟨x, hx, hi, _⟩ := found_yes hl h
    symm
    rw [hasI, List.any_eq_true]
    exact ⟨x, List.mem_of_getElem? hx, hi⟩
theorem punL_found {e : Int} {l : List Nd} {m : Int} {i : Nat} {x : Nd} (hl : okS e l) (h : Found l m i true) (hx : l[i]? = some x) : punL ci l m = l.take i ++ woL ci (17 - x.d).toNat x m ++ l.drop (i + 1) := by
  obtain ⟨y, hy, _, h1, h2⟩ := found_yes hl h
  rw [hx] at hy
  injection hy with hy
  subst hy
  have hi : i < l.length := (List.getElem?_eq_some_iff.1 hx).1
  have hxi : l[i] = x := (List.getElem?_eq_some_iff.1 hx).2
  have e1 : l = l.take i ++ (x :: l.drop (i + 1)) := by rw [← hxi, ← List.drop_eq_getElem_cons hi, List.take_append_drop]
  have e2 : punL ci l m = punL ci (l.take i ++ (x :: l.drop (i + 1))) m := by rw [← e1]
  rw [e2, punL_append, punL_not (ci := ci) h1, punL_cons, punL_not (ci := ci) h2, List.append_assoc]
set_option maxHeartbeats 800000 in
theorem has_any (g : Nat) (A : Option Addr) (n c : Nat) (l : List Nd) (m : Int) (w : World) (h : TrA ci w g A n c l) :
    Calls Try.prog 42 #[.pointer (some ⟨g, 0, none⟩), .int .u64 m] w (RetB (.bool (hasI l m)) w) := by
  have H := Lib.hid h
  clear h
  go_enter Try.func42, Try.ntmps42
  go_wp2_with fail
  refine (find_any g A n c l m _ H.out).mono ?_
  rintro e w2 ⟨i, b, rfl, hf, bw⟩
  have HBV := Lib.hid (hasI_found H.out.ok hf)
  have HB := Lib.hid bw
  clear hf bw
  go_wp2_with fail
  go_ret
  rw [← HBV.out]
  exact ⟨rfl, HB.out⟩
theorem has_nil (m : Int) (w : World) : Calls Try.prog 42 #[.pointer none, .int .u64 m] w (RetB (.bool false) w) := by
  go_enter Try.func42, Try.ntmps42
  go_wp2_with fail
  refine (find_nil m _).mono ?_
  rintro e w2 ⟨rfl, rfl⟩
  go_wp2_with fail
  go_ret
  exact ⟨rfl, Below.refl _ _⟩
end Go.Proofs.Ytippbjpodnnhiaa.Kg
/-
  The contract of the ci.v cipher's Split, as the laws hand it in.
-/
namespace Go.Proofs.Ytippbjpodnnhiaa.Kg
open Go.RowKit
attribute [local go_sem ↓] Go.wp_at_zero Go.wp_at_succ
theorem four_blocks (w : World) (A B C D : Obj) : ((((w.alloc A).alloc B).alloc C).alloc D).heap[w.heap.size]? = some A ∧ ((((w.alloc A).alloc B).alloc C).alloc D).heap[w.heap.size + 1]? = some B ∧ ((((w.alloc A).alloc B).alloc C).alloc D).heap[w.heap.size + 1 + 1]? = some C ∧ ((((w.alloc A).alloc B).alloc C).alloc D).heap[w.heap.size + 1 + 1 + 1]? = some D ∧ Below w.heap.size w ((((w.alloc A).alloc B).alloc C).alloc D) := by
  obtain ⟨h1, h2, h3, hb⟩ := three_blocks w A B C
  have hs : (((w.alloc A).alloc B).alloc C).heap.size = w.heap.size + 1 + 1 + 1 := by simp
  refine ⟨?_, ?_, ?_, ?_, hb.alloc (by rw [hs]; omega) _⟩
  · rw [heap_alloc_old _ _ (by rw [hs]; omega)]; exact h1
  · rw [heap_alloc_old _ _ (by rw [hs]; omega)]; exact h2
  · rw [heap_alloc_old _ _ (by rw [hs]; omega)]; exact h3
  · rw [← hs]; exact heap_alloc_new _ _
theorem info_keyL : (Try.prog.info? 43).map (·.size) = some 32 := by kernel_rfl
theorem blk_oldL {w : World} {g : Nat} {cs : Array Value} {t : TypeId} {A : Obj} (h : Blk w g cs t) : Blk (w.alloc A) g cs t := (heap_alloc_old _ _ h.lt).trans h
end Go.Proofs.Ytippbjpodnnhiaa.Kg
/-
  The held nodes that are built of their parts.
-/
namespace Go.Proofs.Ytippbjpodnnhiaa.Kg
open Go.RowKit
variable {ci : Ciph}
set_option maxRecDepth 100000 in
theorem build_held (x : Nd) (hs : x.s.length = 32) (W : World) :
    (Instr.build 61 #[(0, .int .i64 x.d), (1, .int .u64 x.a), (2, .agg (bva x.s))]).run Try.prog W = .ok (.agg (ndC x)) W := by
  have e : Try.prog.built 61 [(0, .int .i64 x.d), (1, .int .u64 x.a), (2, .agg (bva x.s))] = Instr.fill places3 (ndC zeroNd) [(0, .int .i64 x.d), (1, .int .u64 x.a), (2, .agg (bva x.s))] := by kernel_rfl
  refine run_build W 61 _ _ ?_
  show Try.prog.built 61 [(0, .int .i64 x.d), (1, .int .u64 x.a), (2, .agg (bva x.s))] = _
  rw [e]
  have s0 : (ndC zeroNd).size = 34 := ndC_size rfl
  have c1 : (Value.int .i64 x.d).cells = #[Value.int .i64 x.d] := rfl
  have c2 : (Value.int .u64 x.a).cells = #[Value.int .u64 x.a] := rfl
  have c3 : (Value.agg (bva x.s)).cells = bva x.s := rfl
  have l3 : (bva x.s).toList.length = 32 := by rw [Array.length_toList, bva_size, hs]
  obtain ⟨z1, f1⟩ := Great.foldl_set 0 [Value.int .i64 x.d] 0 (ndC zeroNd)
  generalize hA : ([Value.int .i64 x.d].zipIdx 0).foldl (fun cs (x : Value × Nat) => cs.setIfInBounds (0 + x.2) x.1) (ndC zeroNd) = A at z1 f1
  obtain ⟨z2, f2⟩ := Great.foldl_set 1 [Value.int .u64 x.a] 0 A
  generalize hB : ([Value.int .u64 x.a].zipIdx 0).foldl (fun cs (x : Value × Nat) => cs.setIfInBounds (1 + x.2) x.1) A = B at z2 f2
  obtain ⟨z3, f3⟩ := Great.foldl_set 2 (bva x.s).toList 0 B
  generalize hC : ((bva x.s).toList.zipIdx 0).foldl (fun cs (x : Value × Nat) => cs.setIfInBounds (2 + x.2) x.1) B = C at z3 f3
  rw [fill_step places3 (off := 0) (size := 1) rfl _ (by rw [c1]; rfl) _ (by rw [s0]; omega), c1, hA,
    fill_step places3 (off := 1) (size := 1) rfl _ (by rw [c2]; rfl) _ (by rw [z1, s0]; omega), c2, hB,
    fill_step places3 (off := 2) (size := 32) rfl _ (by rw [c3, bva_size, hs]) _ (by rw [z2, z1, s0]; omega), c3, hC, Instr.fill]
  congr 1
  have hL : ∀ i : Nat, (ndC x)[i]? = (Value.int .i64 x.d :: Value.int .u64 x.a :: bv x.s)[i]? := fun i => by rw [ndC, List.getElem?_toArray]; rfl
  apply Array.ext_getElem?
  intro j
  rw [f3 j, f2 j, f1 j, z2, z1, s0, l3, hL]
  match j with
  | 0 => simp
  | 1 => simp
  | j + 2 =>
    by_cases h3 : j < 32
    · rw [if_pos (by omega), List.getElem?_cons_succ, List.getElem?_cons_succ]
      simp [bva]
    · rw [if_neg (by omega), if_neg (by simp; omega), if_neg (by simp), List.getElem?_eq_none (by simp [bv_length, hs]; omega)]
      exact Array.getElem?_eq_none (by rw [s0]; omega)
theorem one_fillH (x : Nd) (hs : x.s.length = 32) : Instr.fill (fun i => some (i * 34, 34)) ((Array.range (1 * 34)).map ((Value.agg (ndC zeroNd)).cells[· % (Value.agg (ndC zeroNd)).cells.size]!)) [(0, .agg (ndC x))] = some (ndC x) := one_fill x hs
end Go.Proofs.Ytippbjpodnnhiaa.Kg
