/-
  string(b) of a row of bytes, nil let in.
-/
import Derived.Test.YtdemfaolkmillaaWords
import Derived.Laws.IdiomStrings
import Derived.Lib.Strings
namespace Go.Proofs.Ytdemfaolkmillaa
open Go.RowKit
theorem conv_rd {P : Program} {w : World} {src dst e : TypeId} {B n c : Nat} {A : Option Addr} {l : List UInt8} (hs : P.underlying src = some (.slice e)) (he : P.underlying e = some (.int .u8)) (hd : P.underlying dst = some .string)
    (h : Rd B w A (bv l)) (hn : l.length = n) : (convert src dst (.slice A n c)).run P w = .ok (.string ⟨l.toArray⟩) w := by
  subst hn
  cases A with
  | some ad => exact run_convert_bytes_back w src dst e ad c l hs he hd (fun j hj => by
      obtain ⟨ad', e', _, hc⟩ := h.at_ hj
      injection e' with e'
      subst e'
      exact hc)
  | none =>
    have hl : l = [] := by
      cases l with
      | nil => rfl
      | cons b t => obtain ⟨_, h', _⟩ := h 0 _ rfl; cases h'
    subst hl
    show (convert src dst (.slice none 0 c)).run P w = _
    rw [run_convert_bytes_string w src dst e none 0 c hs he hd]
    trace_state
    rfl
end Go.Proofs.Ytdemfaolkmillaa
