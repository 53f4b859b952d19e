/-
  What the laws of the tree have in common: punctures one behind the other, a key with its sign.
-/
import Derived.Test.YtkfcllcdkgnfbaaKtAwake
import Derived.Test.YtkfcllcdkgnfbaaKtSame
import Derived.Test.YtkfcllcdkgnfbaaEqBytes
import Derived.Test.YtkfcllcdkgnfbaaOpenI
namespace Go.Proofs.Ytkfcllcdkgnfbaa.Kt
open Go.RowKit
attribute [local go_sem ↓] Go.wp_at_zero Go.wp_at_succ
set_option maxRecDepth 100000 in
theorem build_nodeS (s : List UInt8) (hs : s.length = 32) (W : World) : (Instr.build 32 #[(2, .agg (bva s))]).run Try.prog W = .ok (.agg (ndC ⟨0, 0, s⟩)) W := by
  have e : Try.prog.built 32 [(2, .agg (bva s))] = Instr.fill places3 (ndC zeroNd) [(2, .agg (bva s))] := by kernel_rfl
  refine run_build W 32 _ _ ?_
  show Try.prog.built 32 [(2, .agg (bva s))] = _
  rw [e]
  have s0 : (ndC zeroNd).size = 34 := ndC_size rfl
  have c3 : (Value.agg (bva s)).cells = bva s := rfl
  have l3 : (bva s).toList.length = 32 := by rw [Array.length_toList, bva_size, hs]
  obtain ⟨z3, f3⟩ := Great.foldl_set 2 (bva s).toList 0 (ndC zeroNd)
  generalize hC : ((bva s).toList.zipIdx 0).foldl (fun cs (x : Value × Nat) => cs.setIfInBounds (2 + x.2) x.1) (ndC zeroNd) = C at z3 f3
  rw [fill_step places3 (off := 2) (size := 32) rfl _ (by rw [c3, bva_size, hs]) _ (by rw [s0]; omega), c3, hC, Instr.fill]
  congr 1
  have hL : ∀ i : Nat, (ndC ⟨0, 0, s⟩)[i]? = (Value.int .i64 0 :: Value.int .u64 0 :: bv s)[i]? := fun i => by rw [ndC, List.getElem?_toArray]; rfl
  have hZ : ∀ i : Nat, (ndC zeroNd)[i]? = (Value.int .i64 0 :: Value.int .u64 0 :: bv zeroNd.s)[i]? := fun i => by rw [ndC, List.getElem?_toArray]; rfl
  apply Array.ext_getElem?
  intro j
  rw [f3 j, s0, l3, hL, hZ]
  match j with
  | 0 => simp
  | 1 => simp
  | j + 2 =>
    by_cases h3 : j < 32
    · rw [if_pos (by omega), List.getElem?_cons_succ, List.getElem?_cons_succ]
      simp [bva]
    · rw [if_neg (by omega), List.getElem?_eq_none (by simp [bv_length, zeroNd]; omega), List.getElem?_eq_none (by simp [bv_length, hs]; omega)]
/-- Punctures, one behind the other. -/
def punAll (x : List Nd) (ms : List Int) : List Nd := ms.foldl punL x
theorem punAll_snoc (x : List Nd) (ms : List Int) {k : Nat} (h : k < ms.length) : punAll x (ms.take (k + 1)) = punL (punAll x (ms.take k)) (ms.getD k 0) := by
  rw [List.take_succ_eq_append_getElem h, punAll, List.foldl_append]
  simp [punAll, h]
theorem punAll_ok {x : List Nd} (hx : okS 0 x) : ∀ (ms : List Int), okS 0 (punAll x ms)
  | [] => hx
  | m :: ms => punAll_ok (punL_ok m hx) ms
/-- A leaf's key, and whether there is one. -/
def keyK (l : List Nd) (m : Int) : List UInt8 := match l.find? (inI · m) with | some x => (goL (17 - x.d).toNat x m).s | none => List.replicate 32 0
theorem keyV_form (l : List Nd) (m : Int) : keyV (l.find? (inI · m)) m = .tuple #[.agg (bva (keyK l m)), .bool (hasI l m)] := by
  unfold keyK
  cases h : l.find? (inI · m) with
  | none =>
    have : hasI l m = false := by rw [hasI, List.any_eq_false]; exact fun x hx => List.find?_eq_none.1 h x hx
    rw [this, keyV_none]
  | some x =>
    have : hasI l m = true := by rw [hasI, List.any_eq_true]; exact ⟨x, List.mem_of_find?_eq_some h, by simpa using List.find?_some h⟩
    rw [this, keyV_some]
theorem keyK_length {l : List Nd} (h : ∀ x ∈ l, x.s.length = 32) (m : Int) : (keyK l m).length = 32 := by
  unfold keyK
  split
  · rename_i x hx; exact goL_s _ _ _ (h x (List.mem_of_find?_eq_some hx))
  · rfl
theorem eq_key (a b : List UInt8) (ha : a.length = 32) (hb : b.length = 32) (w : World) : (Op.equalIn 10000 23 (.agg (bva a)) (.agg (bva b))).run Try.prog w = .ok (decide (a = b)) w := by
  obtain ⟨i, hi⟩ := Option.isSome_iff_exists.1 (show (Try.prog.info? 5).isSome = true by kernel_rfl)
  exact run_equal_bytes w Try.underlying23 Try.underlying5 hi (by kernel_rfl) a b ha hb
end Go.Proofs.Ytkfcllcdkgnfbaa.Kt
