/-
  Shapes that came in: how one is opened as its two numbers.
-/
import Derived.Test.YtmokigcplgjgiaaProg
import Derived.Test.YtmokigcplgjgiaaOpen
import Derived.Test.YtmokigcplgjgiaaOpenA
namespace Go.Proofs.Ytmokigcplgjgiaa.Sg
open Go.RowKit
/-- A number that an int can hold. -/
def i64B (n : Int) : Prop := -9223372036854775808 ≤ n ∧ n ≤ 9223372036854775807
section
open Go.ChangeShapes Go.WideShapes
variable {H : Type} {enc : TypeId × Value → H} {w : World} {base : Nat} {spare : Nat → Bool} {held : Bool} {r : Reach} {b0 : Nat}
theorem shape_fields : (Try.prog.fieldsOf 23).toList.map (fun f => (f.name == "_", f.type, f.offset)) = [(false, 3, 0), (false, 3, 1)] := by kernel_rfl
theorem shape_under : Try.prog.underlying 23 = some (.struct (Try.prog.fieldsOf 23)) := by kernel_rfl
set_option maxRecDepth 100000 in
theorem shape_of_trod {fuel : Nat} {cs : List Value} {x : DataW H × List MemPlace} (h : DataW.trod enc Try.prog w base spare held fuel 23 cs = some x) :
    ∃ a b : Int, cs = [.int .i64 a, .int .i64 b] ∧ i64B a ∧ i64B b := by
  obtain ⟨xs, n, _, _, hl, hlen, hf⟩ := DataW.trod_struct shape_under h
  have hfs := shape_fields
  have hcn : Try.prog.cellsOf 23 = 2 := by kernel_rfl
  have hci : Try.prog.cellsOf 3 = 1 := by kernel_rfl
  generalize Try.prog.fieldsOf 23 = fs at hfs hlen hf
  rw [hcn] at hl
  obtain ⟨L⟩ := fs
  have hL5 : L.length = 2 := by simpa using congrArg List.length hfs
  match L, hL5, hfs, hf, hlen with
  | [f0, f1], _, hfs, hf, hlen =>
    simp only [List.map_cons, List.map_nil, List.cons.injEq, Prod.mk.injEq, and_true] at hfs
    obtain ⟨⟨_, t0, o0⟩, ⟨_, t1, o1⟩⟩ := hfs
    have h5 : xs.length = 2 := hlen
    have g0 := hf 0 f0 rfl
    have g1 := hf 1 f1 rfl
    rw [t0, o0, hci, List.getElem?_eq_getElem (by omega)] at g0
    rw [t1, o1, hci, List.getElem?_eq_getElem (by omega)] at g1
    obtain ⟨a0, e0, _, w0⟩ := DataW.trod_int Try.underlying3 g0
    obtain ⟨a1, e1, _, w1⟩ := DataW.trod_int Try.underlying3 g1
    match cs, hl with
    | [u0, u1], _ =>
      simp at e0 e1
      exact ⟨a0, a1, by rw [e0, e1], bounds_i64 w0, bounds_i64 w1⟩
set_option maxRecDepth 100000 in
/-- A shape that came in by value. -/
theorem open_shape {v : Value} {d : DataW H} {ps : List MemPlace} (hval : Value.okWide Try.prog w r b0 23 v) (h : DataW.Trod enc Try.prog w base spare held 23 v d ps) :
    ∃ a b : Int, v = .agg #[.int .i64 a, .int .i64 b] ∧ i64B a ∧ i64B b := by
  obtain ⟨cs, rfl, hsz⟩ : ∃ cs, v = .agg cs ∧ cs.size = 2 := by
    have h1 := hval
    simp only [Value.okWide, shape_under] at h1
    obtain ⟨cs, e1, e2, _⟩ := h1
    exact ⟨cs, e1, by rw [e2]; kernel_rfl⟩
  obtain ⟨fuel, hf⟩ := h
  obtain ⟨a, b, e, ha, hb⟩ := shape_of_trod hf
  refine ⟨a, b, ?_, ha, hb⟩
  rw [← e]
  rfl
end
end Go.Proofs.Ytmokigcplgjgiaa.Sg
