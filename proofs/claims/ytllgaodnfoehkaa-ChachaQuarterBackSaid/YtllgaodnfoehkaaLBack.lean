/-
  ChachaQuarterBack holds: of every four numbers the law returns true, and its argument reads as it did.
-/
import Derived.Test.YtllgaodnfoehkaaAwake
import Derived.Test.YtllgaodnfoehkaaTurns
import Derived.Test.YtllgaodnfoehkaaOpenA
import Derived.ProofKit
import Derived.OpenShut
import Derived.ShutString
import Derived.ChangeOld
namespace Go.Proofs.Ytllgaodnfoehkaa
open Go.RowKit Go.ChangeShapes Go.WideShapes Go.ChangeAt
theorem w_sub3 (a b c : UInt32) : ((a.toNat : Int) - (b.toNat : Int) - (c.toNat : Int)) % 4294967296 = ((a - b - c).toNat : Int) := by
  rw [UInt32.toNat_sub, UInt32.toNat_sub]; have := a.toNat_lt; have := b.toNat_lt; have := c.toNat_lt; omega
set_option maxHeartbeats 400000 in
theorem chachaQuarterBack_any (w : World) (s : List UInt32) (hs : s.length = 4) :
    Calls Try.prog 4 #[.agg (uv s)] w (RetB (.bool true) w) := by
  go_enter Try.func4, Try.ntmps4
  go_wp2_with fail
  refine (awake_any _).mono ?_
  rintro e w1 ⟨rfl, b1⟩
  have B : Blk w1 w.heap.size (uv s) 23 := Blk.below (heap_alloc_new _ _) b1
  have hb : Below w.heap.size w w1 := ((Below.refl _ _).alloc (Nat.le_refl _) _).trans (b1.mono (by simp))
  obtain ⟨x0, hx0⟩ : ∃ x, x = s.getD 0 0 := ⟨_, rfl⟩
  obtain ⟨x1, hx1⟩ : ∃ x, x = s.getD 1 0 := ⟨_, rfl⟩
  obtain ⟨x2, hx2⟩ : ∃ x, x = s.getD 2 0 := ⟨_, rfl⟩
  obtain ⟨x3, hx3⟩ : ∃ x, x = s.getD 3 0 := ⟨_, rfl⟩
  have c0 : w1.cell? ⟨w.heap.size, 0, none⟩ = some (.int .u32 (x0.toNat : Int)) := by rw [hx0]; exact B.cellu (by omega)
  have c1 : w1.cell? ⟨w.heap.size, 1, none⟩ = some (.int .u32 (x1.toNat : Int)) := by rw [hx1]; exact B.cellu (by omega)
  have c2 : w1.cell? ⟨w.heap.size, 2, none⟩ = some (.int .u32 (x2.toNat : Int)) := by rw [hx2]; exact B.cellu (by omega)
  have c3 : w1.cell? ⟨w.heap.size, 3, none⟩ = some (.int .u32 (x3.toNat : Int)) := by rw [hx3]; exact B.cellu (by omega)
  clear B b1 hx0 hx1 hx2 hx3
  have hqb := qq_back x0 x1 x2 x3
  have hqc := fun W => quarter_any x0 x1 x2 x3 W
  generalize qq x0 x1 x2 x3 = q at hqb hqc
  obtain ⟨a2, b2, c2', d2⟩ := q
  obtain ⟨q1, q2, q3, q4⟩ := hqb
  have HQC := Lib.hid hqc
  have eb : bits BinOp.xor IntKind.u32 (((rotr (rotr b2 7 ^^^ c2') 12).toNat : Int)) (((c2'.toNat : Int) - (d2.toNat : Int)) % 4294967296) = (x1.toNat : Int) := by
    rw [w_sub, w_xor]; exact congrArg (fun x : UInt32 => (x.toNat : Int)) q2
  have ec : ((c2'.toNat : Int) - (d2.toNat : Int) - bits BinOp.xor IntKind.u32 ((rotr d2 8).toNat : Int) (a2.toNat : Int)) % 4294967296 = (x2.toNat : Int) := by
    rw [w_xor, w_sub3]; exact congrArg (fun x : UInt32 => (x.toNat : Int)) q3
  have ed : bits BinOp.xor IntKind.u32 (((rotr (rotr d2 8 ^^^ a2) 16).toNat : Int)) (((a2.toNat : Int) - bits BinOp.xor IntKind.u32 ((rotr b2 7).toNat : Int) (c2'.toNat : Int)) % 4294967296) = (x3.toNat : Int) := by
    rw [w_xor, w_sub, w_xor]; exact congrArg (fun x : UInt32 => (x.toNat : Int)) q4
  have ea : ((a2.toNat : Int) - bits BinOp.xor IntKind.u32 ((rotr b2 7).toNat : Int) (c2'.toNat : Int) - (x1.toNat : Int)) % 4294967296 = (x0.toNat : Int) := by
    rw [w_xor, w_sub3]
    have e1 : rotr (rotr b2 7 ^^^ c2') 12 ^^^ (c2' - d2) = x1 := q2
    have h := q1
    simp only at h
    rw [e1] at h
    rw [h]
  have EB := Lib.hid eb
  have EC := Lib.hid ec
  have ED := Lib.hid ed
  have EA := Lib.hid ea
  clear hqc q1 q2 q3 q4 eb ec ed ea
  go_wp2_with fail
  refine (HQC.out _).mono ?_
  rintro e w2 ⟨rfl, rfl⟩
  have ha2 : (0 : Int) ≤ a2.toNat := by omega
  go_wp2_with fail
  refine (back_any _ _ b2 7 _ rfl rfl (by decide) (by decide)).mono ?_
  rintro e w2 ⟨rfl, rfl⟩
  go_wp2_with fail
  refine (back_any _ _ d2 8 _ rfl rfl (by decide) (by decide)).mono ?_
  rintro e w2 ⟨rfl, rfl⟩
  go_wp2_with fail
  refine (back_any _ _ (rotr b2 7 ^^^ c2') 12 _ (by simp only [w_xor]) rfl (by decide) (by decide)).mono ?_
  rintro e w2 ⟨rfl, rfl⟩
  go_wp2_with fail
  refine (back_any _ _ (rotr d2 8 ^^^ a2) 16 _ (by simp only [w_xor]) rfl (by decide) (by decide)).mono ?_
  rintro e w2 ⟨rfl, rfl⟩
  have eb := EB.out
  have ec := EC.out
  have ed := ED.out
  have ea := EA.out
  go_wp2_with fail
  go_ret
  exact ⟨rfl, hb⟩
theorem chachaQuarterBack_own : ownKnob Try.prog.godebug = none := by kernel_rfl
theorem chachaQuarterBack_laid : laidOutB Try.prog = true := by kernel_rfl

set_option maxRecDepth 100000 in
theorem chachaQuarterBack_lifted (os : Os) (started : os.Started) (H : Type) (enc : TypeId × Value → H) :
    ReturnsInHanded {} Try.checked os 4 .any (Rows.chachaQuarterBackSpec.pre6 enc Try.prog Try.f4 Rows.chachaQuarterBackRow.domain false) (Rows.chachaQuarterBackSpec.post enc Try.prog Try.f4 false true false false) := by
  refine returnsInHanded_of_change (C := Try.checked) chachaQuarterBack_own started (by kernel_rfl) Try.func4
    (ChangeSpec.witness6 (enc := enc) (C := Try.checked) false ⟨#[], #[.agg #[.int .u32 0, .int .u32 0, .int .u32 0, .int .u32 0]], []⟩ 8 (by kernel_rfl) (by kernel_rfl) (by kernel_rfl) (by kernel_rfl)) ?_
  intro W base args ds gs before hval0 hW _ _
  have hval : ∀ (j : Nat) t v, Try.f4.params[j]? = some t → args[j]? = some v → Value.okWide Try.prog W .any base t v := hval0
  have hW' := hW
  obtain ⟨p, q, hA0, hV, rfl, hfz, hnd⟩ := hW
  have hA : DataW.TrodAll enc Try.prog W 0 (fun _ => true) true Try.f4.params.toList args.toList ds p := hA0
  rw [Try.params4] at hA hval
  obtain ⟨v0, vs0, d0, ds0, p0, q0, hargs, rfl, rfl, h0, r0⟩ := trodAll_cons hA
  obtain ⟨rfl, rfl, rfl⟩ := trodAll_nil r0
  obtain rfl : args = #[v0] := by cases args; simp_all
  obtain ⟨rfl, rfl⟩ := trodVars_none hV
  have lt0 : ∀ x ∈ p0, x.block < W.heap.size := by obtain ⟨m, hm⟩ := h0; exact DataW.trod_lt m _ _ _ hm
  obtain ⟨l0, hl0, rfl⟩ := open_u32s Try.underlying23 Try.underlying22 (by kernel_rfl) (by kernel_rfl) (hval 0 23 v0 rfl rfl) h0
  clear hA0 hval0
  refine (chachaQuarterBack_any W l0 hl0).mono fun e W' ⟨he, bel⟩ => ?_
  subst he
  exact ⟨_, rfl, _, _, _, [], _, [], hW', trodAll_mk1 (shut_bool Try.underlying4 _), (trodAll_cons_mk (Below.trod chachaQuarterBack_laid (by kernel_rfl) (of_decide_eq_true (by kernel_rfl)) h0 bel lt0) trodAll_mk0), rfl, bel.frame _, fun h => by cases h⟩

theorem chachaQuarterBack_holds : Rows.ChachaQuarterBackSaid :=
  OpenClaim.holds_of_wide 4 Try.f4 rfl rfl rfl rfl rfl rfl rfl ⟨rfl, rfl, rfl, rfl, rfl⟩ rfl rfl rfl rfl rfl (by kernel_rfl) Try.func4 (by kernel_rfl)
    (of_decide_eq_true (by kernel_rfl)) (by unfold Func.isWrapper; rw [if_neg (of_decide_eq_false (by kernel_rfl))]; exact ⟨rfl, rfl⟩)
    (fun os started H enc _ => chachaQuarterBack_lifted os started H enc)

#print axioms chachaQuarterBack_holds

end Go.Proofs.Ytllgaodnfoehkaa
