/-
  ChachaKnown holds: of every size the law returns true, and its argument reads as it did.
-/
import Derived.Test.YtllgaodnfoehkaaAwake
import Derived.Test.YtllgaodnfoehkaaHere
import Derived.Deep.DrawnRows
import Derived.Test.YtllgaodnfoehkaaOpenA
import Derived.ProofKit
import Derived.OpenShut
import Derived.ShutString
import Derived.ChangeOld
namespace Go.Proofs.Ytllgaodnfoehkaa
open Go.RowKit Go.ChangeShapes Go.WideShapes Go.ChangeAt
attribute [local go_sem ↓] Go.wp_at_zero Go.wp_at_succ
def knownS : ByteArray := ⟨#[55, 54, 98, 56, 101, 48, 97, 100, 97, 48, 102, 49, 51, 100, 57, 48, 52, 48, 53, 100, 54, 97, 101, 53, 53, 51, 56, 54, 98, 100, 50, 56, 98, 100, 100, 50, 49, 57, 98, 56, 97, 48, 56, 100, 101, 100, 49, 97, 97, 56, 51, 54, 101, 102, 99, 99, 56, 98, 55, 55, 48, 100, 99, 55, 100, 97, 52, 49, 53, 57, 55, 99, 53, 49, 53, 55, 52, 56, 56, 100, 55, 55, 50, 52, 101, 48, 51, 102, 98, 56, 100, 56, 52, 97, 51, 55, 54, 97, 52, 51, 98, 56, 102, 52, 49, 53, 49, 56, 97, 49, 49, 99, 99, 51, 56, 55, 98, 54, 54, 57, 98, 50, 101, 101, 54, 53, 56, 54, 57, 102, 48, 55, 101, 55, 98, 101, 53, 53, 53, 49, 51, 56, 55, 97, 57, 56, 98, 97, 57, 55, 55, 99, 55, 51, 50, 100, 48, 56, 48, 100, 99, 98, 48, 102, 50, 57, 97, 48, 52, 56, 101, 51, 54, 53, 54, 57, 49, 50, 99, 54, 53, 51, 51, 101, 51, 50, 101, 101, 55, 97, 101, 100, 50, 57, 98, 55, 50, 49, 55, 54, 57, 99, 101, 54, 52, 101, 52, 51, 100, 53, 55, 49, 51, 51, 98, 48, 55, 52, 100, 56, 51, 57, 100, 53, 51, 49, 101, 100, 49, 102, 50, 56, 53, 49, 48, 97, 102, 98, 52, 53, 97, 99, 101, 49, 48, 97, 49, 102, 52, 98, 55, 57, 52, 100, 54, 102]⟩
def hexS : ByteArray := ⟨#[48, 49, 50, 51, 52, 53, 54, 55, 56, 57, 97, 98, 99, 100, 101, 102]⟩
theorem digits_all : (List.range 128).all (fun j => (knownS.data[2 * j]? == hexS.data[(knownL.getD j 0).toNat / 16]?) && (knownS.data[2 * j]?).isSome && (knownS.data[2 * j + 1]? == hexS.data[(knownL.getD j 0).toNat % 16]?) && (knownS.data[2 * j + 1]?).isSome) = true := by decide +kernel
theorem digits {j : Nat} (h : j < 128) : ∃ a b : UInt8, knownS.data[2 * j]? = some a ∧ hexS.data[(knownL.getD j 0).toNat / 16]? = some a ∧ knownS.data[2 * j + 1]? = some b ∧ hexS.data[(knownL.getD j 0).toNat % 16]? = some b := by
  have h1 := List.all_eq_true.1 digits_all j (List.mem_range.2 h)
  simp only [Bool.and_eq_true, beq_iff_eq] at h1
  obtain ⟨⟨⟨h2, h3⟩, h4⟩, h5⟩ := h1
  obtain ⟨a, ha⟩ := Option.isSome_iff_exists.1 h3
  obtain ⟨b, hb⟩ := Option.isSome_iff_exists.1 h5
  exact ⟨a, b, ha, h2.symm.trans ha, hb, h4.symm.trans hb⟩
theorem exec_index {P : Program} {w : World} {r : Operand → Value} {o : Oper} (t : TypeId) (x y : Operand) (ho : o.op = .index t x y) (s : ByteArray) {k : IntKind} {i : Int} (hx : r x = .string s) (hy : r y = .int k i) (ht : P.underlying t = some .string)
    {n : Nat} (hi : i = (n : Int)) {v : UInt8} (hv : s.data[n]? = some v) : (execOp r o).run P w = .ok (.value (.int .u8 (v.toNat : Int))) w := by
  have hn : n < s.data.size := (Array.getElem?_eq_some_iff.1 hv).1
  have hn' : n < s.size := hn
  have hrun := run_index_string (P := P) w t s k i ht
  have hc : 0 ≤ i ∧ i < s.size := by omega
  rw [dif_pos hc] at hrun
  have hval : (s[i.toNat]'(by omega)) = v := by
    subst hi
    exact (Array.getElem?_eq_some_iff.1 hv).2
  rw [hval] at hrun
  unfold execOp
  simp only [ho, hx, hy, Sem.run_bind, hrun, Result.andThen_ok]
  rfl
theorem exec_index_c {P : Program} {w : World} {a : Act} {o : Oper} (t : TypeId) (s : ByteArray) (y : Operand) (ho : o.op = .index t (.const (.string s)) y) {k : IntKind} {i : Int} (hy : a.eval y = .int k i) (ht : P.underlying t = some .string)
    {n : Nat} (hi : i = (n : Int)) {v : UInt8} (hv : s.data[n]? = some v) : (execOp a.eval o).run P w = .ok (.value (.int .u8 (v.toNat : Int))) w :=
  exec_index t (.const (.string s)) y ho s rfl hy ht hi hv
theorem streamI_few (k : List UInt8) (N F : Nat) (h : F ≤ 65536) : streamI k N (F : Int) = streamL k N F := by
  unfold streamI
  by_cases h0 : F = 0
  · subst h0; rfl
  · rw [if_pos (by omega), Int.toNat_natCast]
theorem knownL_length : knownL.length = 128 := by decide +kernel
theorem known_at {j : Nat} (h : j < 128) : strAt (List.replicate 32 0) 0 j = knownL.getD j 0 := by
  rw [strAt]
  by_cases hj : j < 64
  · rw [show j / 64 = 0 by omega, show j % 64 = j by omega, show UInt32.ofNat 0 = 0 from rfl, known0, List.getD_eq_getElem?_getD, List.getElem?_take, if_pos hj, ← List.getD_eq_getElem?_getD]
  · rw [show j / 64 = 1 by omega, show UInt32.ofNat 1 = 1 from rfl, known1, List.getD_eq_getElem?_getD, List.getElem?_drop, show 64 + j % 64 = j by omega, ← List.getD_eq_getElem?_getD]
theorem and15 (b : UInt8) : bits BinOp.and IntKind.u8 (b.toNat : Int) 15 = ((b.toNat % 16 : Nat) : Int) := by
  have h := u8_and_nat b.toNat 15 (by have := b.toNat_lt; omega) (by decide)
  rw [show ((15 : Int)) = ((15 : Nat) : Int) from rfl, h]
  congr 1
  exact Nat.and_two_pow_sub_one_eq_mod b.toNat 4
set_option maxHeartbeats 1000000 in
theorem chachaKnown_any (w : World) (size : Int) (hs : 0 ≤ size ∧ size ≤ 255) :
    Calls Try.prog 11 #[.int .u8 size] w (RetB (.bool true) w) := by
  obtain ⟨s0, s1⟩ := hs
  obtain ⟨N, eN⟩ : ∃ N : Nat, size % 129 = (N : Int) := ⟨(size % 129).toNat, by omega⟩
  have lN : N ≤ 128 := by omega
  go_enter Try.func11, Try.ntmps11
  go_wp2_with fail
  refine (awake_any _).mono ?_
  rintro e w1 ⟨rfl, bw1⟩
  go_wp2_with fail
  refine (stream_nought (N : Int) _).mono ?_
  rintro e w2 ⟨A, n, c, rfl, ho, bw2⟩
  rw [streamI_few _ _ _ (by omega)] at ho
  obtain rfl : N = n := (streamL_length _ _ _).symm.trans (own_blen ho)
  have bw := bw1.trans (bw2.mono bw1.size)
  have BW := Lib.hid bw
  have HO := Lib.hid ho
  clear ho bw1 bw2 bw
  go_wp2_with fail
  go_loopw [15] (fun i wr => ∃ j m : Nat, j ≤ N ∧ i = .int .i64 j ∧ wr = w2.drewN m) (fun i _ => N - (intOf i).toNat)
  case atStart => exact ⟨0, 0, by omega, rfl, rfl⟩
  case round =>
    obtain ⟨j, m, hj, rfl, rfl⟩ := hrel
    by_cases hlt : j < N
    · obtain ⟨g, hA, _, _, _⟩ := own_addr HO.out (by omega)
      subst hA
      obtain ⟨b, hb⟩ : ∃ b, b = knownL.getD j 0 := ⟨_, rfl⟩
      have hc : w2.cell? ⟨g, j, none⟩ = some (.int .u8 (b.toNat : Int)) := by
        have h := HO.out.cells (g := g) rfl j (.int .u8 (b.toNat : Int)) (by rw [hb, ← known_at (by omega), bv, List.getElem?_map, streamL, List.getElem?_map, List.getElem?_range hlt]; rfl)
        rw [add_head] at h
        exact h
      have hc' : (w2.drewN m).cell? ⟨g, j, none⟩ = some (.int .u8 (b.toNat : Int)) := hc
      obtain ⟨d1, d2, h1, h2, h3, h4⟩ := digits (j := j) (by omega)
      rw [← hb] at h2 h4
      have D1 := Lib.hid h1
      have D2 := Lib.hid h2
      have D3 := Lib.hid h3
      have D4 := Lib.hid h4
      have EA := Lib.hid (and15 b)
      have j0 : (0 : Int) ≤ (j : Int) := by omega
      have j1 : (j : Int) < (N : Int) := by omega
      have b0 : (0 : Int) ≤ (b.toNat : Int) := by omega
      have b1 : (b.toNat : Int) ≤ 255 := by have := b.toNat_lt; omega
      have e2 : 2 * (j : Int) = ((2 * j : Nat) : Int) := by omega
      have e21 : 2 * (j : Int) + 1 = ((2 * j + 1 : Nat) : Int) := by omega
      have e16 : (b.toNat : Int) / 16 = ((b.toNat / 16 : Nat) : Int) := by omega
      have E2 := Lib.hid e2
      have E21 := Lib.hid e21
      have E16 := Lib.hid e16
      clear h1 h2 h3 h4 hb e2 e21 e16
      have w2j : IntKind.i64.wrap (2 * (j : Int)) = 2 * (j : Int) := IntWalk.i64_in _ (by omega)
      have w2j1 : IntKind.i64.wrap (2 * (j : Int) + 1) = 2 * (j : Int) + 1 := IntWalk.i64_in _ (by omega)
      generalize hwx : w2.drewN m = wx at hc' ⊢
      have HWX := Lib.hid hwx
      clear hwx
      go_wp2_with fail
      refine wp_region_any (by kernel_rfl) ?_
      change wpAny _ _ _ _ _ _ _ (World.drew _)
      refine wpAny_take (i := 0) (v := ?v0) rfl (by kernel_rfl) (by kernel_rfl) (by kernel_rfl) (fun _ _ _ h => h) (Or.inl ⟨by rfl, ?y0⟩) ?_
      case y0 => (intro w'; go_simp; try with_reducible rfl)
      refine wpAny_take (i := 1) (v := ?v1) rfl (by kernel_rfl) (by kernel_rfl) (by kernel_rfl) (fun _ _ _ h => h) (Or.inl ⟨by rfl, ?y1⟩) ?_
      case y1 => (intro w'; go_simp; try with_reducible rfl)
      refine wpAny_take (i := 2) (v := .int .u8 (d1.toNat : Int)) rfl (by kernel_rfl) (by kernel_rfl) (by kernel_rfl) (fun _ _ _ h => h) (Or.inl ⟨by rfl, ?y2⟩) ?_
      case y2 => (intro w'; apply exec_index_c (k := .i64) 9 knownS (.tmp 21) ?_ ?_ Try.underlying9 E2.out D1.out; exact (by kernel_rfl); rfl)
      simp only [List.getElem_toArray, List.getElem_cons_succ, List.getElem_cons_zero, Act.put, List.setIfInBounds_toArray, List.set_cons_zero, List.set_cons_succ]
      refine wpAny_take (i := 3) (v := ?v3) rfl (by kernel_rfl) (by kernel_rfl) (by kernel_rfl) (fun _ _ _ h => h) (Or.inl ⟨by rfl, ?y3⟩) ?_
      case y3 => (intro w'; go_simp; try with_reducible rfl)
      refine wpAny_take (i := 4) (v := ?v4) rfl (by kernel_rfl) (by kernel_rfl) (by kernel_rfl) (fun _ _ _ h => h) (Or.inl ⟨by rfl, ?y4⟩) ?_
      case y4 => (intro w'; go_simp; try with_reducible rfl)
      refine wpAny_take (i := 5) (v := .int .u8 (d1.toNat : Int)) rfl (by kernel_rfl) (by kernel_rfl) (by kernel_rfl) (fun _ _ _ h => h) (Or.inl ⟨by rfl, ?y5⟩) ?_
      case y5 => (intro w'; apply exec_index_c (k := .u8) 9 hexS (.tmp 24) ?_ ?_ Try.underlying9 E16.out D2.out; exact (by kernel_rfl); rfl)
      simp only [List.getElem_toArray, List.getElem_cons_succ, List.getElem_cons_zero, Act.put, List.setIfInBounds_toArray, List.set_cons_zero, List.set_cons_succ]
      refine wpAny_take (i := 6) (v := ?v6) rfl (by kernel_rfl) (by kernel_rfl) (by kernel_rfl) (fun _ _ _ h => h) (Or.inl ⟨by rfl, ?y6⟩) ?_
      case y6 => (intro w'; go_simp; try with_reducible rfl)
      refine wpAny_take (i := 7) (v := ?v7) rfl (by kernel_rfl) (by kernel_rfl) (by kernel_rfl) (fun _ _ _ h => h) (Or.inl ⟨by rfl, ?y7⟩) ?_
      case y7 => (intro w'; go_simp; try with_reducible rfl)
      simp only [List.getElem_toArray, List.getElem_cons_succ, List.getElem_cons_zero, Act.put, List.setIfInBounds_toArray, List.set_cons_zero, List.set_cons_succ]
      refine wpAny_take (i := 8) (v := ?v8) rfl (by kernel_rfl) (by kernel_rfl) (by kernel_rfl) (fun _ _ _ h => h) (Or.inl ⟨by rfl, ?y8⟩) ?_
      case y8 => (intro w'; go_simp; try with_reducible rfl)
      simp only [List.getElem_toArray, List.getElem_cons_succ, List.getElem_cons_zero, Act.put, List.setIfInBounds_toArray, List.set_cons_zero, List.set_cons_succ]
      refine wpAny_take (i := 9) (v := ?v9) rfl (by kernel_rfl) (by kernel_rfl) (by kernel_rfl) (fun _ _ _ h => h) (Or.inl ⟨by rfl, ?y9⟩) ?_
      case y9 => (intro w'; go_simp; try with_reducible rfl)
      simp only [List.getElem_toArray, List.getElem_cons_succ, List.getElem_cons_zero, Act.put, List.setIfInBounds_toArray, List.set_cons_zero, List.set_cons_succ]
      refine wpAny_take (i := 10) (v := ?v10) rfl (by kernel_rfl) (by kernel_rfl) (by kernel_rfl) (fun _ _ _ h => h) (Or.inl ⟨by rfl, ?y10⟩) ?_
      case y10 => (intro w'; go_simp; try with_reducible rfl)
      simp only [List.getElem_toArray, List.getElem_cons_succ, List.getElem_cons_zero, Act.put, List.setIfInBounds_toArray, List.set_cons_zero, List.set_cons_succ]
      refine wpAny_take (i := 11) (v := .int .u8 (d2.toNat : Int)) rfl (by kernel_rfl) (by kernel_rfl) (by kernel_rfl) (fun _ _ _ h => h) (Or.inl ⟨by rfl, ?y11⟩) ?_
      case y11 => (intro w'; apply exec_index_c (k := .i64) 9 knownS (.tmp 30) ?_ ?_ Try.underlying9 E21.out D3.out; exact (by kernel_rfl); rfl)
      simp only [List.getElem_toArray, List.getElem_cons_succ, List.getElem_cons_zero, Act.put, List.setIfInBounds_toArray, List.set_cons_zero, List.set_cons_succ]
      refine wpAny_take (i := 12) (v := ?v12) rfl (by kernel_rfl) (by kernel_rfl) (by kernel_rfl) (fun _ _ _ h => h) (Or.inl ⟨by rfl, ?y12⟩) ?_
      case y12 => (intro w'; go_simp; try with_reducible rfl)
      simp only [List.getElem_toArray, List.getElem_cons_succ, List.getElem_cons_zero, Act.put, List.setIfInBounds_toArray, List.set_cons_zero, List.set_cons_succ]
      refine wpAny_take (i := 13) (v := ?v13) rfl (by kernel_rfl) (by kernel_rfl) (by kernel_rfl) (fun _ _ _ h => h) (Or.inl ⟨by rfl, ?y13⟩) ?_
      case y13 => (intro w'; go_simp; try with_reducible rfl)
      simp only [List.getElem_toArray, List.getElem_cons_succ, List.getElem_cons_zero, Act.put, List.setIfInBounds_toArray, List.set_cons_zero, List.set_cons_succ]
      refine wpAny_take (i := 14) (v := .int .u8 (d2.toNat : Int)) rfl (by kernel_rfl) (by kernel_rfl) (by kernel_rfl) (fun _ _ _ h => h) (Or.inl ⟨by rfl, ?y14⟩) ?_
      case y14 => (intro w'; apply exec_index_c (k := .u8) 9 hexS (.tmp 33) ?_ ?_ Try.underlying9 EA.out D4.out; exact (by kernel_rfl); rfl)
      simp only [List.getElem_toArray, List.getElem_cons_succ, List.getElem_cons_zero, Act.put, List.setIfInBounds_toArray, List.set_cons_zero, List.set_cons_succ]
      refine wpAny_take (i := 15) (v := ?v15) rfl (by kernel_rfl) (by kernel_rfl) (by kernel_rfl) (fun _ _ _ h => h) (Or.inl ⟨by rfl, ?y15⟩) ?_
      case y15 => (intro w'; go_simp; try with_reducible rfl)
      simp only [List.getElem_toArray, List.getElem_cons_succ, List.getElem_cons_zero, Act.put, List.setIfInBounds_toArray, List.set_cons_zero, List.set_cons_succ]
      refine wpAny_take (i := 16) (v := ?v16) rfl (by kernel_rfl) (by kernel_rfl) (by kernel_rfl) (fun _ _ _ h => h) (Or.inl ⟨by rfl, ?y16⟩) ?_
      case y16 => (intro w'; go_simp; try with_reducible rfl)
      simp only [List.getElem_toArray, List.getElem_cons_succ, List.getElem_cons_zero, Act.put, List.setIfInBounds_toArray, List.set_cons_zero, List.set_cons_succ]
      refine wpAny_done (by kernel_rfl) ?_ _
      go_wp2
      go_roundw
      case rel => exact ⟨j + 1, m + 1, by omega, by go_num, by show wx.drewN 1 = _; rw [← HWX.out, World.drewN_drewN]⟩
      case measure => simp [intOf]; omega
    · obtain rfl : j = N := by omega
      go_wp2_with fail
      go_ret
      exact ⟨ret_bool (by simp), below_drewN' BW.out _⟩
theorem chachaKnown_own : ownKnob Try.prog.godebug = none := by kernel_rfl
theorem chachaKnown_laid : laidOutB Try.prog = true := by kernel_rfl

set_option maxRecDepth 100000 in
theorem chachaKnown_lifted (os : Os) (started : os.Started) (H : Type) (enc : TypeId × Value → H) :
    ReturnsInHanded {} Try.checked os 11 .any (Rows.chachaKnownSpec.pre6 enc Try.prog Try.f11 Rows.chachaKnownRow.domain false) (Rows.chachaKnownSpec.post enc Try.prog Try.f11 false true false false) := by
  refine returnsInHanded_of_change (C := Try.checked) chachaKnown_own started (by kernel_rfl) Try.func11
    (ChangeSpec.witness6 (enc := enc) (C := Try.checked) false ⟨#[], #[.int .u8 0], []⟩ 8 (by kernel_rfl) (by kernel_rfl) (by kernel_rfl) (by kernel_rfl)) ?_
  intro W base args ds gs before hval0 hW _ _
  have hval : ∀ (j : Nat) t v, Try.f11.params[j]? = some t → args[j]? = some v → Value.okWide Try.prog W .any base t v := hval0
  have hW' := hW
  obtain ⟨p, q, hA0, hV, rfl, hfz, hnd⟩ := hW
  have hA : DataW.TrodAll enc Try.prog W 0 (fun _ => true) true Try.f11.params.toList args.toList ds p := hA0
  rw [Try.params11] at hA hval
  obtain ⟨v0, vs0, d0, ds0, p0, q0, hargs, rfl, rfl, h0, r0⟩ := trodAll_cons hA
  obtain ⟨rfl, rfl, rfl⟩ := trodAll_nil r0
  obtain rfl : args = #[v0] := by cases args; simp_all
  obtain ⟨rfl, rfl⟩ := trodVars_none hV
  obtain ⟨a0, rfl, rfl, rfl, w0⟩ := open_int Try.underlying5 (hval 0 5 v0 rfl rfl) h0
  have b0 := bounds_u8 w0
  clear hA0 hval0
  refine (chachaKnown_any W a0 b0).mono fun e W' ⟨he, bel⟩ => ?_
  subst he
  exact ⟨_, rfl, _, _, _, [], _, [], hW', trodAll_mk1 (shut_bool Try.underlying4 _), (trodAll_cons_mk (shut_int Try.underlying5 w0) trodAll_mk0), rfl, bel.frame _, fun h => by cases h⟩

theorem chachaKnown_holds : Rows.ChachaKnownSaid :=
  OpenClaim.holds_of_wide 11 Try.f11 rfl rfl rfl rfl rfl rfl rfl ⟨rfl, rfl, rfl, rfl, rfl⟩ rfl rfl rfl rfl rfl (by kernel_rfl) Try.func11 (by kernel_rfl)
    (of_decide_eq_true (by kernel_rfl)) (by unfold Func.isWrapper; rw [if_neg (of_decide_eq_false (by kernel_rfl))]; exact ⟨rfl, rfl⟩)
    (fun os started H enc _ => chachaKnown_lifted os started H enc)

#print axioms chachaKnown_holds

end Go.Proofs.Ytllgaodnfoehkaa
