/-
  No cell of these rows narrows 'for every input' (looked for: loops, veiled, ifaces, maps, wideKeys, modest, calm, conditions, laid).
  DERIVED. THE GIVEN ROWS OF THIS SEAT. 10 by the template 'for every input the law returns true; each argument reads behind the call as it read before'; 0 by the template 'total and deterministic' (their statements: YtnplhagfmfggcaaTotals.lean).
  GIVEN WITH THE SEED: the statements are not yours to turn. If you find one false, say at which input.
  Laid BY PROGRAM, IN A SANDBOX (cutbox-rows.mjs): the forced cells as the released guide's own fill.sh prints them over the translation ab095cf51eaca129… (all of the seat's roots in one cut). By AI agents, Wed Nov 11 2026. No macro, syntax, notation, axiom, sorry.
-/
import Derived.Test.YtnplhagfmfggcaaChecked
import GoSem.Claim
import GoSem.ClaimJoined
import GoSem.ClaimMapViews
import Derived.JoinedTies
import Derived.KernelRfl
namespace Go.Proofs.Ytnplhagfmfggcaa
/- THE CELL 'sum', in the pinned program and in every row, IS THE sha256 OF THE DUMP (.gsa) THAT YtnplhagfmfggcaaProg.lean LOADS. Nothing in Lean hashes anything: it is a label: what it is worth is what the hold of that sum in a sandbox is worth. -/
noncomputable def Try.pinned : Pinned := { name := "ytnplhagfmfggcaa", sum := "ab095cf51eaca12935b8d4633e2f7a965b1e7d4b484d417197fca16a3ad5d2f8", checked := Try.checked }
namespace Rows
def none {H : Type} : Left H := { results := [], args := [] }

/-- 'erewhilelaw08.DevicePlays': WHATEVER THE INPUT: true; the input reads as it did. -/
def devicePlaysSpec : ChangeSpec := { name := "devicePlays", fn := fun _ => fun
  | [d1, d2, d3] => { results := [.lit (.bool true)], args := [d1, d2, d3] }
  | _ => none }
def devicePlaysRow : OpenClaim := { program := "ytnplhagfmfggcaa", sum := "ab095cf51eaca12935b8d4633e2f7a965b1e7d4b484d417197fca16a3ad5d2f8", func := "erewhile/erewhilelaw08.DevicePlays", spec := "devicePlays", unfollowed := true, recurses := true, apart := false }
def DevicePlaysSaid : Prop := devicePlaysRow.holds Try.pinned (OpenSpec.ofChange devicePlaysSpec)

/-- ITS FALSE NEIGHBOUR: 'it returns false'. Refute it at one input. -/
def devicePlaysWrong : ChangeSpec := { name := "devicePlays", fn := fun _ => fun
  | [d1, d2, d3] => { results := [.lit (.bool false)], args := [d1, d2, d3] }
  | _ => none }
def DevicePlaysWrongFalsely : Prop := devicePlaysRow.holds Try.pinned (OpenSpec.ofChange devicePlaysWrong)

/-- 'erewhilelaw10.ScrubAll': WHATEVER THE INPUT: true; the input reads as it did. -/
def scrubAllSpec : ChangeSpec := { name := "scrubAll", fn := fun _ => fun
  | [d1, d2] => { results := [.lit (.bool true)], args := [d1, d2] }
  | _ => none }
def scrubAllRow : OpenClaim := { program := "ytnplhagfmfggcaa", sum := "ab095cf51eaca12935b8d4633e2f7a965b1e7d4b484d417197fca16a3ad5d2f8", func := "erewhile/erewhilelaw10.ScrubAll", spec := "scrubAll", unfollowed := true, recurses := true, apart := false }
def ScrubAllSaid : Prop := scrubAllRow.holds Try.pinned (OpenSpec.ofChange scrubAllSpec)

/-- ITS FALSE NEIGHBOUR: 'it returns false'. Refute it at one input. -/
def scrubAllWrong : ChangeSpec := { name := "scrubAll", fn := fun _ => fun
  | [d1, d2] => { results := [.lit (.bool false)], args := [d1, d2] }
  | _ => none }
def ScrubAllWrongFalsely : Prop := scrubAllRow.holds Try.pinned (OpenSpec.ofChange scrubAllWrong)

/-- 'erewhilelaw15.LogPlays': WHATEVER THE INPUT: true; the input reads as it did. -/
def logPlaysSpec : ChangeSpec := { name := "logPlays", fn := fun _ => fun
  | [d1, d2, d3] => { results := [.lit (.bool true)], args := [d1, d2, d3] }
  | _ => none }
def logPlaysRow : OpenClaim := { program := "ytnplhagfmfggcaa", sum := "ab095cf51eaca12935b8d4633e2f7a965b1e7d4b484d417197fca16a3ad5d2f8", func := "erewhile/erewhilelaw15.LogPlays", spec := "logPlays", unfollowed := true, recurses := true, apart := false }
def LogPlaysSaid : Prop := logPlaysRow.holds Try.pinned (OpenSpec.ofChange logPlaysSpec)

/-- ITS FALSE NEIGHBOUR: 'it returns false'. Refute it at one input. -/
def logPlaysWrong : ChangeSpec := { name := "logPlays", fn := fun _ => fun
  | [d1, d2, d3] => { results := [.lit (.bool false)], args := [d1, d2, d3] }
  | _ => none }
def LogPlaysWrongFalsely : Prop := logPlaysRow.holds Try.pinned (OpenSpec.ofChange logPlaysWrong)

/-- 'erewhilelaw16.SuperCodes': WHATEVER THE INPUT: true; the input reads as it did. -/
def superCodesSpec : ChangeSpec := { name := "superCodes", fn := fun _ => fun
  | [d1, d2, d3] => { results := [.lit (.bool true)], args := [d1, d2, d3] }
  | _ => none }
def superCodesRow : OpenClaim := { program := "ytnplhagfmfggcaa", sum := "ab095cf51eaca12935b8d4633e2f7a965b1e7d4b484d417197fca16a3ad5d2f8", func := "erewhile/erewhilelaw16.SuperCodes", spec := "superCodes", apart := false }
def SuperCodesSaid : Prop := superCodesRow.holds Try.pinned (OpenSpec.ofChange superCodesSpec)

/-- ITS FALSE NEIGHBOUR: 'it returns false'. Refute it at one input. -/
def superCodesWrong : ChangeSpec := { name := "superCodes", fn := fun _ => fun
  | [d1, d2, d3] => { results := [.lit (.bool false)], args := [d1, d2, d3] }
  | _ => none }
def SuperCodesWrongFalsely : Prop := superCodesRow.holds Try.pinned (OpenSpec.ofChange superCodesWrong)

/-- 'erewhilelaw16.SuperDecodes': WHATEVER THE INPUT: true; the input reads as it did. -/
def superDecodesSpec : ChangeSpec := { name := "superDecodes", fn := fun _ => fun
  | [d] => { results := [.lit (.bool true)], args := [d] }
  | _ => none }
def superDecodesRow : OpenClaim := { program := "ytnplhagfmfggcaa", sum := "ab095cf51eaca12935b8d4633e2f7a965b1e7d4b484d417197fca16a3ad5d2f8", func := "erewhile/erewhilelaw16.SuperDecodes", spec := "superDecodes", apart := false }
def SuperDecodesSaid : Prop := superDecodesRow.holds Try.pinned (OpenSpec.ofChange superDecodesSpec)

/-- ITS FALSE NEIGHBOUR: 'it returns false'. Refute it at one input. -/
def superDecodesWrong : ChangeSpec := { name := "superDecodes", fn := fun _ => fun
  | [d] => { results := [.lit (.bool false)], args := [d] }
  | _ => none }
def SuperDecodesWrongFalsely : Prop := superDecodesRow.holds Try.pinned (OpenSpec.ofChange superDecodesWrong)

/-- 'erewhilelaw16.SuperWrites': WHATEVER THE INPUT: true; the input reads as it did. -/
def superWritesSpec : ChangeSpec := { name := "superWrites", fn := fun _ => fun
  | [d] => { results := [.lit (.bool true)], args := [d] }
  | _ => none }
def superWritesRow : OpenClaim := { program := "ytnplhagfmfggcaa", sum := "ab095cf51eaca12935b8d4633e2f7a965b1e7d4b484d417197fca16a3ad5d2f8", func := "erewhile/erewhilelaw16.SuperWrites", spec := "superWrites", unfollowed := true, recurses := true, apart := false }
def SuperWritesSaid : Prop := superWritesRow.holds Try.pinned (OpenSpec.ofChange superWritesSpec)

/-- ITS FALSE NEIGHBOUR: 'it returns false'. Refute it at one input. -/
def superWritesWrong : ChangeSpec := { name := "superWrites", fn := fun _ => fun
  | [d] => { results := [.lit (.bool false)], args := [d] }
  | _ => none }
def SuperWritesWrongFalsely : Prop := superWritesRow.holds Try.pinned (OpenSpec.ofChange superWritesWrong)

/-- 'erewhilelaw16.SuperReads': WHATEVER THE INPUT: true; the input reads as it did. -/
def superReadsSpec : ChangeSpec := { name := "superReads", fn := fun _ => fun
  | [d1, d2] => { results := [.lit (.bool true)], args := [d1, d2] }
  | _ => none }
def superReadsRow : OpenClaim := { program := "ytnplhagfmfggcaa", sum := "ab095cf51eaca12935b8d4633e2f7a965b1e7d4b484d417197fca16a3ad5d2f8", func := "erewhile/erewhilelaw16.SuperReads", spec := "superReads", unfollowed := true, recurses := true, apart := false }
def SuperReadsSaid : Prop := superReadsRow.holds Try.pinned (OpenSpec.ofChange superReadsSpec)

/-- ITS FALSE NEIGHBOUR: 'it returns false'. Refute it at one input. -/
def superReadsWrong : ChangeSpec := { name := "superReads", fn := fun _ => fun
  | [d1, d2] => { results := [.lit (.bool false)], args := [d1, d2] }
  | _ => none }
def SuperReadsWrongFalsely : Prop := superReadsRow.holds Try.pinned (OpenSpec.ofChange superReadsWrong)

/-- 'erewhilelaw16.SuperOne': WHATEVER THE INPUT: true; the input reads as it did. -/
def superOneSpec : ChangeSpec := { name := "superOne", fn := fun _ => fun
  | [d1, d2, d3, d4, d5] => { results := [.lit (.bool true)], args := [d1, d2, d3, d4, d5] }
  | _ => none }
def superOneRow : OpenClaim := { program := "ytnplhagfmfggcaa", sum := "ab095cf51eaca12935b8d4633e2f7a965b1e7d4b484d417197fca16a3ad5d2f8", func := "erewhile/erewhilelaw16.SuperOne", spec := "superOne", unfollowed := true, recurses := true, apart := false }
def SuperOneSaid : Prop := superOneRow.holds Try.pinned (OpenSpec.ofChange superOneSpec)

/-- ITS FALSE NEIGHBOUR: 'it returns false'. Refute it at one input. -/
def superOneWrong : ChangeSpec := { name := "superOne", fn := fun _ => fun
  | [d1, d2, d3, d4, d5] => { results := [.lit (.bool false)], args := [d1, d2, d3, d4, d5] }
  | _ => none }
def SuperOneWrongFalsely : Prop := superOneRow.holds Try.pinned (OpenSpec.ofChange superOneWrong)

/-- 'erewhilelaw16.SuperRows': WHATEVER THE INPUT: true; the input reads as it did. -/
def superRowsSpec : ChangeSpec := { name := "superRows", fn := fun _ => fun
  | [d1, d2] => { results := [.lit (.bool true)], args := [d1, d2] }
  | _ => none }
def superRowsRow : OpenClaim := { program := "ytnplhagfmfggcaa", sum := "ab095cf51eaca12935b8d4633e2f7a965b1e7d4b484d417197fca16a3ad5d2f8", func := "erewhile/erewhilelaw16.SuperRows", spec := "superRows", unfollowed := true, recurses := true, apart := false }
def SuperRowsSaid : Prop := superRowsRow.holds Try.pinned (OpenSpec.ofChange superRowsSpec)

/-- ITS FALSE NEIGHBOUR: 'it returns false'. Refute it at one input. -/
def superRowsWrong : ChangeSpec := { name := "superRows", fn := fun _ => fun
  | [d1, d2] => { results := [.lit (.bool false)], args := [d1, d2] }
  | _ => none }
def SuperRowsWrongFalsely : Prop := superRowsRow.holds Try.pinned (OpenSpec.ofChange superRowsWrong)

/-- 'erewhilelaw16.SuperScrub': WHATEVER THE INPUT: true; the input reads as it did. -/
def superScrubSpec : ChangeSpec := { name := "superScrub", fn := fun _ => fun
  | [d1, d2, d3, d4] => { results := [.lit (.bool true)], args := [d1, d2, d3, d4] }
  | _ => none }
def superScrubRow : OpenClaim := { program := "ytnplhagfmfggcaa", sum := "ab095cf51eaca12935b8d4633e2f7a965b1e7d4b484d417197fca16a3ad5d2f8", func := "erewhile/erewhilelaw16.SuperScrub", spec := "superScrub", unfollowed := true, recurses := true, apart := false }
def SuperScrubSaid : Prop := superScrubRow.holds Try.pinned (OpenSpec.ofChange superScrubSpec)

/-- ITS FALSE NEIGHBOUR: 'it returns false'. Refute it at one input. -/
def superScrubWrong : ChangeSpec := { name := "superScrub", fn := fun _ => fun
  | [d1, d2, d3, d4] => { results := [.lit (.bool false)], args := [d1, d2, d3, d4] }
  | _ => none }
def SuperScrubWrongFalsely : Prop := superScrubRow.holds Try.pinned (OpenSpec.ofChange superScrubWrong)

/- THE SECOND FORM. 'bulk': how many values and letters a reading holds, each counted each time it is reached (what is shared counts as often as it is met; a slice's spare places count too). A statement '..UptoSaid' is the law's where the arguments, and the package variables that the reading takes, are together of bulk at most 1048576: NARROWER than '..Said'. Prove '..Said' where nothing that the law and all that it calls make is longer than what came in: it says more and counts as full. Else prove '..UptoSaid'. A law counts once. -/
mutual
def uptoBulk {H : Type} : DataW H → Nat
  | .lit (.string bytes) => bytes.length + 1
  | .lit _ => 1
  | .nil => 1
  | .ptr d => uptoBulk d + 1
  | .slice elems spare => uptoBulkAll elems + uptoBulkAll spare + 1
  | .agg parts => uptoBulkAll parts + 1
  | .iface _ d => uptoBulk d + 1
  | .map entries => uptoBulkEntries entries + 1
  | .held _ => 1
def uptoBulkAll {H : Type} : List (DataW H) → Nat
  | [] => 0
  | d :: r => uptoBulk d + uptoBulkAll r
def uptoBulkEntries {H : Type} : List (Lit × DataW H) → Nat
  | [] => 0
  | x :: r => uptoBulkEntry x + uptoBulkEntries r
def uptoBulkEntry {H : Type} : Lit × DataW H → Nat
  | (.string bytes, d) => bytes.length + uptoBulk d + 1
  | (_, d) => uptoBulk d + 1
 end
def uptoSmall : (H : Type) → List (DataW H) → Bool := fun _ ds => decide (uptoBulkAll ds ≤ 1048576)
def OpenSpec.upto (s : _root_.Go.ChangeSpec) : _root_.Go.OpenSpec := { _root_.Go.OpenSpec.ofChange s with cond := some uptoSmall }

/-- 'erewhilelaw08.DevicePlays', WHERE WHAT IT READS IS OF BULK AT MOST 1048576: true; the input reads as it did. -/
def devicePlaysUptoRow : OpenClaim := { program := "ytnplhagfmfggcaa", sum := "ab095cf51eaca12935b8d4633e2f7a965b1e7d4b484d417197fca16a3ad5d2f8", func := "erewhile/erewhilelaw08.DevicePlays", spec := "devicePlays", unfollowed := true, recurses := true, apart := false, narrowed := true }
def DevicePlaysUptoSaid : Prop := devicePlaysUptoRow.holds Try.pinned (OpenSpec.upto devicePlaysSpec)

/-- 'erewhilelaw10.ScrubAll', WHERE WHAT IT READS IS OF BULK AT MOST 1048576: true; the input reads as it did. -/
def scrubAllUptoRow : OpenClaim := { program := "ytnplhagfmfggcaa", sum := "ab095cf51eaca12935b8d4633e2f7a965b1e7d4b484d417197fca16a3ad5d2f8", func := "erewhile/erewhilelaw10.ScrubAll", spec := "scrubAll", unfollowed := true, recurses := true, apart := false, narrowed := true }
def ScrubAllUptoSaid : Prop := scrubAllUptoRow.holds Try.pinned (OpenSpec.upto scrubAllSpec)

/-- 'erewhilelaw15.LogPlays', WHERE WHAT IT READS IS OF BULK AT MOST 1048576: true; the input reads as it did. -/
def logPlaysUptoRow : OpenClaim := { program := "ytnplhagfmfggcaa", sum := "ab095cf51eaca12935b8d4633e2f7a965b1e7d4b484d417197fca16a3ad5d2f8", func := "erewhile/erewhilelaw15.LogPlays", spec := "logPlays", unfollowed := true, recurses := true, apart := false, narrowed := true }
def LogPlaysUptoSaid : Prop := logPlaysUptoRow.holds Try.pinned (OpenSpec.upto logPlaysSpec)

/-- 'erewhilelaw16.SuperCodes', WHERE WHAT IT READS IS OF BULK AT MOST 1048576: true; the input reads as it did. -/
def superCodesUptoRow : OpenClaim := { program := "ytnplhagfmfggcaa", sum := "ab095cf51eaca12935b8d4633e2f7a965b1e7d4b484d417197fca16a3ad5d2f8", func := "erewhile/erewhilelaw16.SuperCodes", spec := "superCodes", apart := false, narrowed := true }
def SuperCodesUptoSaid : Prop := superCodesUptoRow.holds Try.pinned (OpenSpec.upto superCodesSpec)

/-- 'erewhilelaw16.SuperDecodes', WHERE WHAT IT READS IS OF BULK AT MOST 1048576: true; the input reads as it did. -/
def superDecodesUptoRow : OpenClaim := { program := "ytnplhagfmfggcaa", sum := "ab095cf51eaca12935b8d4633e2f7a965b1e7d4b484d417197fca16a3ad5d2f8", func := "erewhile/erewhilelaw16.SuperDecodes", spec := "superDecodes", apart := false, narrowed := true }
def SuperDecodesUptoSaid : Prop := superDecodesUptoRow.holds Try.pinned (OpenSpec.upto superDecodesSpec)

/-- 'erewhilelaw16.SuperWrites', WHERE WHAT IT READS IS OF BULK AT MOST 1048576: true; the input reads as it did. -/
def superWritesUptoRow : OpenClaim := { program := "ytnplhagfmfggcaa", sum := "ab095cf51eaca12935b8d4633e2f7a965b1e7d4b484d417197fca16a3ad5d2f8", func := "erewhile/erewhilelaw16.SuperWrites", spec := "superWrites", unfollowed := true, recurses := true, apart := false, narrowed := true }
def SuperWritesUptoSaid : Prop := superWritesUptoRow.holds Try.pinned (OpenSpec.upto superWritesSpec)

/-- 'erewhilelaw16.SuperReads', WHERE WHAT IT READS IS OF BULK AT MOST 1048576: true; the input reads as it did. -/
def superReadsUptoRow : OpenClaim := { program := "ytnplhagfmfggcaa", sum := "ab095cf51eaca12935b8d4633e2f7a965b1e7d4b484d417197fca16a3ad5d2f8", func := "erewhile/erewhilelaw16.SuperReads", spec := "superReads", unfollowed := true, recurses := true, apart := false, narrowed := true }
def SuperReadsUptoSaid : Prop := superReadsUptoRow.holds Try.pinned (OpenSpec.upto superReadsSpec)

/-- 'erewhilelaw16.SuperOne', WHERE WHAT IT READS IS OF BULK AT MOST 1048576: true; the input reads as it did. -/
def superOneUptoRow : OpenClaim := { program := "ytnplhagfmfggcaa", sum := "ab095cf51eaca12935b8d4633e2f7a965b1e7d4b484d417197fca16a3ad5d2f8", func := "erewhile/erewhilelaw16.SuperOne", spec := "superOne", unfollowed := true, recurses := true, apart := false, narrowed := true }
def SuperOneUptoSaid : Prop := superOneUptoRow.holds Try.pinned (OpenSpec.upto superOneSpec)

/-- 'erewhilelaw16.SuperRows', WHERE WHAT IT READS IS OF BULK AT MOST 1048576: true; the input reads as it did. -/
def superRowsUptoRow : OpenClaim := { program := "ytnplhagfmfggcaa", sum := "ab095cf51eaca12935b8d4633e2f7a965b1e7d4b484d417197fca16a3ad5d2f8", func := "erewhile/erewhilelaw16.SuperRows", spec := "superRows", unfollowed := true, recurses := true, apart := false, narrowed := true }
def SuperRowsUptoSaid : Prop := superRowsUptoRow.holds Try.pinned (OpenSpec.upto superRowsSpec)

/-- 'erewhilelaw16.SuperScrub', WHERE WHAT IT READS IS OF BULK AT MOST 1048576: true; the input reads as it did. -/
def superScrubUptoRow : OpenClaim := { program := "ytnplhagfmfggcaa", sum := "ab095cf51eaca12935b8d4633e2f7a965b1e7d4b484d417197fca16a3ad5d2f8", func := "erewhile/erewhilelaw16.SuperScrub", spec := "superScrub", unfollowed := true, recurses := true, apart := false, narrowed := true }
def SuperScrubUptoSaid : Prop := superScrubUptoRow.holds Try.pinned (OpenSpec.upto superScrubSpec)

end Rows
end Go.Proofs.Ytnplhagfmfggcaa
