/-
  Texts of this seat, one behind the other: SuEq.
-/
import Derived.Laws.StructEq
import Derived.Test.YtnplhagfmfggcaaSw1
/-
  Supers that are the same; what places come to; what a mirror of which nothing stands tells.
-/
namespace Go.Proofs.Ytnplhagfmfggcaa.Su
open Go.RowKit Kd Mi Sx
theorem eq_super (s : Sp) (W : World) : (Op.equalIn 10000 100 (.agg #[.int .u64 (s.v : Int), .int .i64 s.n, .int .u64 (s.t : Int)]) (.agg #[.int .u64 (s.v : Int), .int .i64 s.n, .int .u64 (s.t : Int)])).run Try.prog W = .ok true W := by
  rw [show (10000 : Nat) = 9999 + 1 from rfl, run_equalIn_struct W 9999 100 _ _ super_under (by kernel_rfl)]
  have h1 := run_equalIn_int (P := Try.prog) W 9998 77 .u64 .u64 (s.v : Int) (s.v : Int) Try.underlying77
  have h2 := run_equalIn_int (P := Try.prog) W 9998 3 .i64 .i64 s.n s.n Try.underlying3
  have h3 := run_equalIn_int (P := Try.prog) W 9998 77 .u64 .u64 (s.t : Int) (s.t : Int) Try.underlying77
  have p0 : ∀ a b c : Int, (part 77 #[.int .u64 a, .int .i64 b, .int .u64 c] 0).run Try.prog W = .ok (.int .u64 a) W := fun _ _ _ => run_part_plain W (by kernel_rfl) rfl
  have p1 : ∀ a b c : Int, (part 3 #[.int .u64 a, .int .i64 b, .int .u64 c] 1).run Try.prog W = .ok (.int .i64 b) W := fun _ _ _ => run_part_plain W (by kernel_rfl) rfl
  have p2 : ∀ a b c : Int, (part 77 #[.int .u64 a, .int .i64 b, .int .u64 c] 2).run Try.prog W = .ok (.int .u64 c) W := fun _ _ _ => run_part_plain W (by kernel_rfl) rfl
  have hf := super_fields
  generalize (Try.prog.fieldsOf 100).toList = fs at hf
  rcases fs with _ | ⟨f0, _ | ⟨f1, _ | ⟨f2, _ | ⟨f3, fs⟩⟩⟩⟩
  · simp at hf
  · simp at hf
  · simp at hf
  · simp only [List.map_cons, List.map_nil, List.cons.injEq, Prod.mk.injEq, and_true, beq_eq_false_iff_ne] at hf
    obtain ⟨⟨n0, t0, o0⟩, ⟨n1, t1, o1⟩, ⟨n2, t2, o2⟩⟩ := hf
    rw [Op.eqFields, if_pos n0, Sem.run_bind, t0, o0, p0, Result.andThen_ok, Sem.run_bind, p0, Result.andThen_ok, Sem.run_bind, h1, Result.andThen_ok]
    simp only [beq_self_eq_true, Bool.not_true, Bool.false_eq_true, if_false]
    rw [Op.eqFields, if_pos n1, Sem.run_bind, t1, o1, p1, Result.andThen_ok, Sem.run_bind, p1, Result.andThen_ok, Sem.run_bind, h2, Result.andThen_ok]
    simp only [beq_self_eq_true, Bool.not_true, Bool.false_eq_true, if_false]
    rw [Op.eqFields, if_pos n2, Sem.run_bind, t2, o2, p2, Result.andThen_ok, Sem.run_bind, p2, Result.andThen_ok, Sem.run_bind, h3, Result.andThen_ok]
    simp [Op.eqFields]
  · simp at hf
/-- What stands where such a super, or none, was written. -/
def secD (d : Option Sp) : List UInt8 := match d with | none => zeroS | some s => secP litSumL s
def fitD (a : Nat) (d : Option Sp) : Prop := match d with | none => True | some s => okP s = true ∧ s.v < 18446744073709551616 ∧ placeP s = a
theorem row_fit {L M : List (List UInt8)} {a bx : Nat} {d : Option Sp} (hL : L.getD a zeroS = secD d) (hM : M.getD a zeroS = secD d) (hf : fitD a d) (ha : a < 4) : rowD litSumL a d ((Sc.startM L M 4).both (gdS litS bx).f (a : Int)) := by
  rw [both_at (by rw [Sc.start_len]; exact ha)]
  obtain ⟨g, hg⟩ : ∃ g : List UInt8 → Bool, g = (gdS litS bx).f (a : Int) := ⟨_, rfl⟩
  have hgy : ∀ y, g y = okS litSumL (a : Int) y := fun y => by rw [hg]; rfl
  rw [← hg]
  show rowD litSumL a d (rowOf g true true (L.getD a zeroS) (M.getD a zeroS))
  rw [hL, hM]
  clear hg hL hM
  cases d with
  | none =>
    have h0 : g zeroS = false := by rw [hgy]; exact Lo.zero_no (by omega)
    exact row_none (.inr (.inl h0)) (.inr (.inl h0))
  | some s =>
    have h1 : g (secP litSumL s) = true := by rw [hgy, ← hf.2.2]; exact ok_sec hf.1 hf.2.1
    obtain ⟨y, hy⟩ : ∃ y, y = secD (some s) := ⟨_, rfl⟩
    have hy2 : y = secP litSumL s := hy
    rw [← hy]
    exact row_some hf h1 (.inl ⟨rfl, hy2⟩) (.inr (.inr hy2)) (.inr (.inr hy2))
theorem start_read {L : List (List UInt8)} {n k : Nat} {f : Int → List UInt8 → Bool} (hk : k < n) (hf : f (k : Int) (L.getD k zeroS) = false) : (Sc.startM L L n).read f (k : Int) = (zeroS, 9) := by
  obtain ⟨y, hy⟩ : ∃ y, y = L.getD k zeroS := ⟨_, rfl⟩
  rw [← hy] at hf
  have hh : (Sc.startM L L n).has (k : Int) = true := by rw [Md.has, Sc.start_len]; simp; omega
  have h0 : (Sc.startM L L n).right f 0 k = f (k : Int) y := by
    rw [Md.right]
    show (!((List.replicate n false).getD k false) && (!false && f (k : Int) (L.getD k zeroS))) = _
    rw [← hy, show (List.replicate n false).getD k false = false by rw [List.getD_eq_getElem?_getD, List.getElem?_replicate]; split <;> rfl]; rfl
  have h1 : (Sc.startM L L n).right f 1 k = f (k : Int) y := by
    rw [Md.right]
    show (!((List.replicate n false).getD k false) && (!false && f (k : Int) (L.getD k zeroS))) = _
    rw [← hy, show (List.replicate n false).getD k false = false by rw [List.getD_eq_getElem?_getD, List.getElem?_replicate]; split <;> rfl]; rfl
  rw [Md.read, hh, if_pos rfl, Int.toNat_natCast, h0, h1, hf]
  rfl
end Go.Proofs.Ytnplhagfmfggcaa.Su
