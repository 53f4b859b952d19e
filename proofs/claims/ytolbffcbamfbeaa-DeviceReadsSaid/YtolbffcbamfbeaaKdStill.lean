/-
  A whole array's load among the operations that only look, ahead of a store.
-/
import Derived.Test.YtolbffcbamfbeaaRowN
import Derived.StillTailTactics
namespace Go.Proofs.Ytolbffcbamfbeaa
open Go.RowKit
theorem wpStill_load_at {P : Program} {ops : Array Oper} {rest : List Oper} {o : Oper} {a : Act} {w : World} {Q : Act → Prop} (hw : Region.wanted o (yielded ops a.tmps) = true) (ty : TypeId) (x : Operand) (ho : o.op = .load ty x) (ad : Addr) {cs : List Value} {d : TypeDesc} (hx : a.eval x = .pointer (some ad)) (hc : ∀ j v, cs[j]? = some v → w.cell? (ad.add j) = some v)
    (hu : P.underlying ty = some d) (hd : (match d with | .struct _ | .array _ _ => true | _ => false) = true) (hi : (P.info? ty).map (·.size) = some cs.length)
    (h : wpStill P ops w Q rest (a.put o.dst (.agg cs.toArray))) : wpStill P ops w Q (o :: rest) a :=
  wpStill_step fun K hK => by
    rw [if_pos hw]
    unfold Oper.still
    rw [exec_load_at ty x ho ad hx hc hu hd hi]
    exact ⟨rfl, hK _ h⟩
end Go.Proofs.Ytolbffcbamfbeaa
