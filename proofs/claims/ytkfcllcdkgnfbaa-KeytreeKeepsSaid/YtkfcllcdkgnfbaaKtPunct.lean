/-
  The contract of the reference's Puncture.
-/
import Derived.Test.YtkfcllcdkgnfbaaKtWithout
namespace Go.Proofs.Ytkfcllcdkgnfbaa.Kt
open Go.RowKit
attribute [local go_sem ↓] Go.wp_at_zero Go.wp_at_succ
/-- A node as the document lets it be held. -/
def okN (x : Nd) : Prop := 0 ≤ x.d ∧ x.d ≤ 17 ∧ 0 ≤ x.a ∧ x.s.length = 32
/-- What is held of nodes without a leaf. -/
def punL (l : List Nd) (m : Int) : List Nd := l.flatMap fun x => woL (17 - x.d).toNat x m
theorem punL_snoc (l : List Nd) (m : Int) {k : Nat} (h : k < l.length) : punL (l.take (k + 1)) m = punL (l.take k) m ++ woL (17 - l[k].d).toNat l[k] m := by
  rw [punL, List.take_succ_eq_append_getElem h, List.flatMap_append]; simp [punL]
theorem punL_count (l : List Nd) (m : Int) (h : ∀ x ∈ l, okN x) : (punL l m).length ≤ l.length * 131072 := by
  induction l with
  | nil => simp [punL]
  | cons x l ih =>
    have h1 := woL_count (17 - x.d).toNat x m
    have h2 : 2 ^ (17 - x.d).toNat ≤ 2 ^ 17 := Nat.pow_le_pow_right (by omega) (by have := (h x (by simp)).1; omega)
    have h3 := ih (fun y hy => h y (by simp [hy]))
    have e : punL (x :: l) m = woL (17 - x.d).toNat x m ++ punL l m := by simp [punL]
    rw [e, List.length_append, List.length_cons]; omega
theorem punL_len (l : List Nd) (m : Int) (h : ∀ x ∈ l, okN x) : ∀ y ∈ punL l m, y.s.length = 32 := by
  intro y hy
  obtain ⟨x, hx, hy⟩ := List.mem_flatMap.1 hy
  exact woL_len _ x m (h x hx).2.2.2 y hy
/-- An element of a row of nodes, as a load meets it. -/
theorem rd_node {B : Nat} {w : World} {A : Option Addr} {l : List Nd} (h : Rd B w A (nvs l)) (hl : ∀ x ∈ l, x.s.length = 32) {k : Nat} (hk : k < l.length) :
    ∃ ad, A = some ad ∧ ad.block < B ∧ ∀ j v, (ndV l[k])[j]? = some v → w.cell? ((ad.add (k * 34)).add j) = some v := by
  have h0 : (ndV l[k])[0]? = some (.int .i64 l[k].d) := rfl
  obtain ⟨ad, hA, hb, _⟩ := h (34 * k + 0) _ (nvs_get hl hk h0)
  refine ⟨ad, hA, hb, fun j v hv => ?_⟩
  obtain ⟨ad', hA', _, hc⟩ := h (34 * k + j) v (nvs_get hl hk hv)
  rw [hA] at hA'
  injection hA' with hA'
  rw [hA', add_twice, Nat.mul_comm k 34]
  exact hc
set_option maxRecDepth 100000 in
set_option maxHeartbeats 3200000 in
theorem puncture_any {B : Nat} (A : Option Addr) (n c : Nat) (l : List Nd) (m : Int) (w : World) (hl : l.length = n) (hv : ∀ x ∈ l, okN x) (hB : B ≤ w.heap.size) (hr : Rd B w A (nvs l)) (hn : n ≤ 1000000) (hm : m < 18446744073709551616) :
    Calls Try.prog 15 #[.slice A n c, .int .u64 m] w (RetRowN 32 34 (nvs (punL l m)) w) := by
  have hl3 : ∀ x ∈ l, x.s.length = 32 := fun x hx => (hv x hx).2.2.2
  have HL := Lib.hid hl
  have HR := Lib.hid (hr.more hB)
  have HV := Lib.hid hv
  have H3 := Lib.hid hl3
  have HM := Lib.hid hm
  clear hl hr hv hl3 hm hB
  go_enter Try.func15, Try.ntmps15
  go_wp2_with fail
  go_loopw [5, 6] (fun o i wr => ∃ k A1 n1 c1, k ≤ n ∧ i = .int .i64 (k : Nat) ∧ o = .slice A1 n1 c1 ∧ Below w.heap.size w wr ∧ wr.ownsRow w.heap.size 32 34 (.slice A1 n1 c1) n1 (nvs (punL (l.take k) m))) (fun _ i _ => n - (intOf i).toNat)
  case atStart => exact ⟨0, none, 0, 0, by omega, rfl, rfl, Below.refl _ _, World.ownsRow_nil _ _ _ _⟩
  case round =>
    obtain ⟨k, A1, n1, c1, hk, rfl, rfl, hbw, how⟩ := hrel
    by_cases hlt : k < n
    · have hkl : k < l.length := by rw [HL.out]; exact hlt
      obtain ⟨ad, hA, hbl, hcell⟩ := rd_node (HR.out.below hbw) H3.out hkl
      subst hA
      have k0 : (0 : Int) ≤ (k : Int) := by omega
      have k1 : (k : Int) < (n : Int) := by omega
      have HC := Lib.hid hcell
      have hx := HV.out l[k] (List.getElem_mem hkl)
      obtain ⟨x, hxe⟩ : ∃ x, x = l[k] := ⟨_, rfl⟩
      rw [← hxe] at hx HC
      obtain ⟨f, hf⟩ : ∃ f, f = (17 - x.d).toNat := ⟨_, rfl⟩
      have hf17 : f ≤ 17 := by have := hx.1; omega
      have hd : x.d = 17 - (f : Int) := by have := hx.1; have := hx.2.1; omega
      have hsn : punL (l.take (k + 1)) m = punL (l.take k) m ++ woL f x m := by rw [punL_snoc l m hkl, ← hxe, ← hf]
      have hcn := punL_count (l.take k) m (fun y hy => HV.out y (List.mem_of_mem_take hy))
      have hn1 : n1 = (punL (l.take k) m).length := by
        have h1 := how.1
        rw [nvs_length (punL_len (l.take k) m (fun y hy => HV.out y (List.mem_of_mem_take hy)))] at h1
        omega
      have hn1' : n1 ≤ k * 131072 := by rw [hn1]; rw [List.length_take] at hcn; exact Nat.le_trans hcn (Nat.mul_le_mul_right _ (by omega))
      have HI : Hid ((Try.prog.info? 32).map (·.size) = some (ndV x).length) := by rw [ndV_length hx.2.2.2]; exact info_node
      have HX := Lib.hid hx
      have HD := Lib.hid hd
      have HW := Lib.hid hbw
      have HO := Lib.hid how
      have HSN := Lib.hid hsn
      clear hcell hx hxe hf hd hbw how hsn hcn hn1
      go_wp2_with (refine wpList_load_at rfl 32 (.tmp 16) rfl (ad.add (k * 34)) rfl HC.out Try.underlying32 rfl HI.out ?_
                   change wpList _ _ _ _ (Act.put _ _ (.agg (ndC x))) _)
      refine (without_any f x hf17 HD.out HX.out.2.2.2 HX.out.2.2.1 m HM.out _).mono ?_
      rintro e w2 ⟨A2, n2, c2, rfl, ho2, bw⟩
      have hn2 : n2 ≤ 131072 := by
        have h1 := ho2.1
        rw [nvs_length (woL_len f x m HX.out.2.2.2)] at h1
        have h2 := woL_count f x m
        have h3 : 2 ^ f ≤ 2 ^ 17 := Nat.pow_le_pow_right (by omega) hf17
        omega
      have P1 := Lib.hid (own_belowN HO.out bw)
      have O2 := Lib.hid ho2
      have PB := Lib.hid (HW.out.trans (bw.mono HW.out.size))
      clear ho2 bw HO HW
      go_wp2_with (at_builtin
                   refine wpList_appN _ rfl (.tmp 13) (.tmp 19) 33 rfl nodesElt (base := w.heap.size) (v := .slice A1 n1 c1) rfl P1.out (m := n2) rfl (Rd.ownN O2.out) O2.out.1 (nvs_one _) ?_ ?_ ?_
                   · omega
                   · exact PB.out.size
                   intro A3 c3 w3 ho3 hg3 _
                   have hb3 := app_belowN PB.out P1.out hg3 (Nat.le_refl _) PB.out.size
                   rw [← nvs_append, ← HSN.out] at ho3
                   have O3 := Lib.hid ho3
                   have B3 := Lib.hid hb3
                   clear ho3 hg3 hb3 P1 O2 PB)
      go_roundw
      case rel => exact ⟨k + 1, A3, n1 + n2, c3, by omega, by go_num, rfl, B3.out, O3.out⟩
      case measure => simp [intOf]; omega
    · obtain rfl : k = n := by omega
      go_wp2
      go_ret
      rw [List.take_of_length_le (by rw [HL.out]; exact Nat.le_refl _)] at how
      exact ⟨A1, n1, c1, rfl, how, hbw⟩
end Go.Proofs.Ytkfcllcdkgnfbaa.Kt
