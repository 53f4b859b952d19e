/-
  No cell of these rows narrows 'for every input' (looked for: loops, veiled, ifaces, maps, wideKeys, modest, calm, conditions, laid).
  DERIVED. THE GIVEN ROWS OF THIS SEAT. 9 by the template 'for every input the law returns true; each argument reads behind the call as it read before'; 0 by the template 'total and deterministic' (their statements: YtippbjpodnnhiaaTotals.lean).
  GIVEN WITH THE SEED: the statements are not yours to turn. If you find one false, say at which input.
  Laid BY PROGRAM, IN A SANDBOX (cutbox-rows.mjs): the forced cells as the released guide's own fill.sh prints them over the translation 8bc060ac9d02aa84… (all of the seat's roots in one cut). By AI agents, Wed Nov 11 2026. No macro, syntax, notation, axiom, sorry.
-/
import Derived.Test.YtippbjpodnnhiaaChecked
import GoSem.Claim
import GoSem.ClaimJoined
import GoSem.ClaimMapViews
import Derived.JoinedTies
import Derived.KernelRfl
namespace Go.Proofs.Ytippbjpodnnhiaa
/- THE CELL 'sum', in the pinned program and in every row, IS THE sha256 OF THE DUMP (.gsa) THAT YtippbjpodnnhiaaProg.lean LOADS. Nothing in Lean hashes anything: it is a label: what it is worth is what the hold of that sum in a sandbox is worth. -/
noncomputable def Try.pinned : Pinned := { name := "ytippbjpodnnhiaa", sum := "8bc060ac9d02aa8466a8d6c2766c1622efb23e509d6685a43b5daca5c0539dc6", checked := Try.checked }
namespace Rows
def none {H : Type} : Left H := { results := [], args := [] }

/-- 'erewhilelaw07.KeycodeEncodes': WHATEVER THE INPUT: true; the input reads as it did. -/
def keycodeEncodesSpec : ChangeSpec := { name := "keycodeEncodes", fn := fun _ => fun
  | [d] => { results := [.lit (.bool true)], args := [d] }
  | _ => none }
def keycodeEncodesRow : OpenClaim := { program := "ytippbjpodnnhiaa", sum := "8bc060ac9d02aa8466a8d6c2766c1622efb23e509d6685a43b5daca5c0539dc6", func := "erewhile/erewhilelaw07.KeycodeEncodes", spec := "keycodeEncodes", unfollowed := true, recurses := true, apart := false }
def KeycodeEncodesSaid : Prop := keycodeEncodesRow.holds Try.pinned (OpenSpec.ofChange keycodeEncodesSpec)

/-- ITS FALSE NEIGHBOUR: 'it returns false'. Refute it at one input. -/
def keycodeEncodesWrong : ChangeSpec := { name := "keycodeEncodes", fn := fun _ => fun
  | [d] => { results := [.lit (.bool false)], args := [d] }
  | _ => none }
def KeycodeEncodesWrongFalsely : Prop := keycodeEncodesRow.holds Try.pinned (OpenSpec.ofChange keycodeEncodesWrong)

/-- 'erewhilelaw07.KeycodeDecodes': WHATEVER THE INPUT: true; the input reads as it did. -/
def keycodeDecodesSpec : ChangeSpec := { name := "keycodeDecodes", fn := fun _ => fun
  | [d] => { results := [.lit (.bool true)], args := [d] }
  | _ => none }
def keycodeDecodesRow : OpenClaim := { program := "ytippbjpodnnhiaa", sum := "8bc060ac9d02aa8466a8d6c2766c1622efb23e509d6685a43b5daca5c0539dc6", func := "erewhile/erewhilelaw07.KeycodeDecodes", spec := "keycodeDecodes", unfollowed := true, recurses := true, apart := false }
def KeycodeDecodesSaid : Prop := keycodeDecodesRow.holds Try.pinned (OpenSpec.ofChange keycodeDecodesSpec)

/-- ITS FALSE NEIGHBOUR: 'it returns false'. Refute it at one input. -/
def keycodeDecodesWrong : ChangeSpec := { name := "keycodeDecodes", fn := fun _ => fun
  | [d] => { results := [.lit (.bool false)], args := [d] }
  | _ => none }
def KeycodeDecodesWrongFalsely : Prop := keycodeDecodesRow.holds Try.pinned (OpenSpec.ofChange keycodeDecodesWrong)

/-- 'erewhilelaw07.KeycodeBack': WHATEVER THE INPUT: true; the input reads as it did. -/
def keycodeBackSpec : ChangeSpec := { name := "keycodeBack", fn := fun _ => fun
  | [d1, d2, d3] => { results := [.lit (.bool true)], args := [d1, d2, d3] }
  | _ => none }
def keycodeBackRow : OpenClaim := { program := "ytippbjpodnnhiaa", sum := "8bc060ac9d02aa8466a8d6c2766c1622efb23e509d6685a43b5daca5c0539dc6", func := "erewhile/erewhilelaw07.KeycodeBack", spec := "keycodeBack", inPlace := ["slices.overlaps[erewhile/keytree.Held]"], unfollowed := true, recurses := true, apart := false }
def KeycodeBackSaid : Prop := keycodeBackRow.holds Try.pinned (OpenSpec.ofChange keycodeBackSpec)

/-- ITS FALSE NEIGHBOUR: 'it returns false'. Refute it at one input. -/
def keycodeBackWrong : ChangeSpec := { name := "keycodeBack", fn := fun _ => fun
  | [d1, d2, d3] => { results := [.lit (.bool false)], args := [d1, d2, d3] }
  | _ => none }
def KeycodeBackWrongFalsely : Prop := keycodeBackRow.holds Try.pinned (OpenSpec.ofChange keycodeBackWrong)

/-- 'erewhilelaw07.KeycodeCut': WHATEVER THE INPUT: true; the input reads as it did. -/
def keycodeCutSpec : ChangeSpec := { name := "keycodeCut", fn := fun _ => fun
  | [d1, d2, d3, d4] => { results := [.lit (.bool true)], args := [d1, d2, d3, d4] }
  | _ => none }
def keycodeCutRow : OpenClaim := { program := "ytippbjpodnnhiaa", sum := "8bc060ac9d02aa8466a8d6c2766c1622efb23e509d6685a43b5daca5c0539dc6", func := "erewhile/erewhilelaw07.KeycodeCut", spec := "keycodeCut", inPlace := ["slices.overlaps[erewhile/keytree.Held]"], unfollowed := true, recurses := true, apart := false }
def KeycodeCutSaid : Prop := keycodeCutRow.holds Try.pinned (OpenSpec.ofChange keycodeCutSpec)

/-- ITS FALSE NEIGHBOUR: 'it returns false'. Refute it at one input. -/
def keycodeCutWrong : ChangeSpec := { name := "keycodeCut", fn := fun _ => fun
  | [d1, d2, d3, d4] => { results := [.lit (.bool false)], args := [d1, d2, d3, d4] }
  | _ => none }
def KeycodeCutWrongFalsely : Prop := keycodeCutRow.holds Try.pinned (OpenSpec.ofChange keycodeCutWrong)

/-- 'erewhilelaw07.KeycodeSpoilt': WHATEVER THE INPUT: true; the input reads as it did. -/
def keycodeSpoiltSpec : ChangeSpec := { name := "keycodeSpoilt", fn := fun _ => fun
  | [d1, d2, d3, d4] => { results := [.lit (.bool true)], args := [d1, d2, d3, d4] }
  | _ => none }
def keycodeSpoiltRow : OpenClaim := { program := "ytippbjpodnnhiaa", sum := "8bc060ac9d02aa8466a8d6c2766c1622efb23e509d6685a43b5daca5c0539dc6", func := "erewhile/erewhilelaw07.KeycodeSpoilt", spec := "keycodeSpoilt", inPlace := ["slices.overlaps[erewhile/keytree.Held]"], unfollowed := true, recurses := true, apart := false }
def KeycodeSpoiltSaid : Prop := keycodeSpoiltRow.holds Try.pinned (OpenSpec.ofChange keycodeSpoiltSpec)

/-- ITS FALSE NEIGHBOUR: 'it returns false'. Refute it at one input. -/
def keycodeSpoiltWrong : ChangeSpec := { name := "keycodeSpoilt", fn := fun _ => fun
  | [d1, d2, d3, d4] => { results := [.lit (.bool false)], args := [d1, d2, d3, d4] }
  | _ => none }
def KeycodeSpoiltWrongFalsely : Prop := keycodeSpoiltRow.holds Try.pinned (OpenSpec.ofChange keycodeSpoiltWrong)

/-- 'erewhilelaw07.KeycodeOrder': WHATEVER THE INPUT: true; the input reads as it did. -/
def keycodeOrderSpec : ChangeSpec := { name := "keycodeOrder", fn := fun _ => fun
  | [d1, d2, d3] => { results := [.lit (.bool true)], args := [d1, d2, d3] }
  | _ => none }
def keycodeOrderRow : OpenClaim := { program := "ytippbjpodnnhiaa", sum := "8bc060ac9d02aa8466a8d6c2766c1622efb23e509d6685a43b5daca5c0539dc6", func := "erewhile/erewhilelaw07.KeycodeOrder", spec := "keycodeOrder", inPlace := ["slices.overlaps[erewhile/keytree.Held]"], unfollowed := true, recurses := true, apart := false }
def KeycodeOrderSaid : Prop := keycodeOrderRow.holds Try.pinned (OpenSpec.ofChange keycodeOrderSpec)

/-- ITS FALSE NEIGHBOUR: 'it returns false'. Refute it at one input. -/
def keycodeOrderWrong : ChangeSpec := { name := "keycodeOrder", fn := fun _ => fun
  | [d1, d2, d3] => { results := [.lit (.bool false)], args := [d1, d2, d3] }
  | _ => none }
def KeycodeOrderWrongFalsely : Prop := keycodeOrderRow.holds Try.pinned (OpenSpec.ofChange keycodeOrderWrong)

/-- 'erewhilelaw07.KeycodeFew': WHATEVER THE INPUT: true; the input reads as it did. -/
def keycodeFewSpec : ChangeSpec := { name := "keycodeFew", fn := fun _ => fun
  | [d1, d2] => { results := [.lit (.bool true)], args := [d1, d2] }
  | _ => none }
def keycodeFewRow : OpenClaim := { program := "ytippbjpodnnhiaa", sum := "8bc060ac9d02aa8466a8d6c2766c1622efb23e509d6685a43b5daca5c0539dc6", func := "erewhile/erewhilelaw07.KeycodeFew", spec := "keycodeFew", inPlace := ["slices.overlaps[erewhile/keytree.Held]"], unfollowed := true, recurses := true, apart := false }
def KeycodeFewSaid : Prop := keycodeFewRow.holds Try.pinned (OpenSpec.ofChange keycodeFewSpec)

/-- ITS FALSE NEIGHBOUR: 'it returns false'. Refute it at one input. -/
def keycodeFewWrong : ChangeSpec := { name := "keycodeFew", fn := fun _ => fun
  | [d1, d2] => { results := [.lit (.bool false)], args := [d1, d2] }
  | _ => none }
def KeycodeFewWrongFalsely : Prop := keycodeFewRow.holds Try.pinned (OpenSpec.ofChange keycodeFewWrong)

/-- 'erewhilelaw07.KeycodeAlike': WHATEVER THE INPUT: true; the input reads as it did. -/
def keycodeAlikeSpec : ChangeSpec := { name := "keycodeAlike", fn := fun _ => fun
  | [d1, d2, d3, d4] => { results := [.lit (.bool true)], args := [d1, d2, d3, d4] }
  | _ => none }
def keycodeAlikeRow : OpenClaim := { program := "ytippbjpodnnhiaa", sum := "8bc060ac9d02aa8466a8d6c2766c1622efb23e509d6685a43b5daca5c0539dc6", func := "erewhile/erewhilelaw07.KeycodeAlike", spec := "keycodeAlike", inPlace := ["slices.overlaps[erewhile/keytree.Held]"], unfollowed := true, recurses := true, apart := false }
def KeycodeAlikeSaid : Prop := keycodeAlikeRow.holds Try.pinned (OpenSpec.ofChange keycodeAlikeSpec)

/-- ITS FALSE NEIGHBOUR: 'it returns false'. Refute it at one input. -/
def keycodeAlikeWrong : ChangeSpec := { name := "keycodeAlike", fn := fun _ => fun
  | [d1, d2, d3, d4] => { results := [.lit (.bool false)], args := [d1, d2, d3, d4] }
  | _ => none }
def KeycodeAlikeWrongFalsely : Prop := keycodeAlikeRow.holds Try.pinned (OpenSpec.ofChange keycodeAlikeWrong)

/-- 'erewhiletop.WholeLeaves': WHATEVER THE INPUT: true; the input reads as it did. -/
def wholeLeavesSpec : ChangeSpec := { name := "wholeLeaves", fn := fun _ => fun
  | [d1, d2] => { results := [.lit (.bool true)], args := [d1, d2] }
  | _ => none }
def wholeLeavesRow : OpenClaim := { program := "ytippbjpodnnhiaa", sum := "8bc060ac9d02aa8466a8d6c2766c1622efb23e509d6685a43b5daca5c0539dc6", func := "erewhile/erewhiletop.WholeLeaves", spec := "wholeLeaves", inPlace := ["slices.overlaps[erewhile/keytree.Held]"], unfollowed := true, recurses := true, apart := false }
def WholeLeavesSaid : Prop := wholeLeavesRow.holds Try.pinned (OpenSpec.ofChange wholeLeavesSpec)

/-- ITS FALSE NEIGHBOUR: 'it returns false'. Refute it at one input. -/
def wholeLeavesWrong : ChangeSpec := { name := "wholeLeaves", fn := fun _ => fun
  | [d1, d2] => { results := [.lit (.bool false)], args := [d1, d2] }
  | _ => none }
def WholeLeavesWrongFalsely : Prop := wholeLeavesRow.holds Try.pinned (OpenSpec.ofChange wholeLeavesWrong)

/- THE SECOND FORM. 'bulk': how many values and letters a reading holds, each counted each time it is reached (what is shared counts as often as it is met; a slice's spare places count too). A statement '..UptoSaid' is the law's where the arguments, and the package variables that the reading takes, are together of bulk at most 1048576: NARROWER than '..Said'. Prove '..Said' where nothing that the law and all that it calls make is longer than what came in: it says more and counts as full. Else prove '..UptoSaid'. A law counts once. -/
mutual
def uptoBulk {H : Type} : DataW H → Nat
  | .lit (.string bytes) => bytes.length + 1
  | .lit _ => 1
  | .nil => 1
  | .ptr d => uptoBulk d + 1
  | .slice elems spare => uptoBulkAll elems + uptoBulkAll spare + 1
  | .agg parts => uptoBulkAll parts + 1
  | .iface _ d => uptoBulk d + 1
  | .map entries => uptoBulkEntries entries + 1
  | .held _ => 1
def uptoBulkAll {H : Type} : List (DataW H) → Nat
  | [] => 0
  | d :: r => uptoBulk d + uptoBulkAll r
def uptoBulkEntries {H : Type} : List (Lit × DataW H) → Nat
  | [] => 0
  | x :: r => uptoBulkEntry x + uptoBulkEntries r
def uptoBulkEntry {H : Type} : Lit × DataW H → Nat
  | (.string bytes, d) => bytes.length + uptoBulk d + 1
  | (_, d) => uptoBulk d + 1
 end
def uptoSmall : (H : Type) → List (DataW H) → Bool := fun _ ds => decide (uptoBulkAll ds ≤ 1048576)
def OpenSpec.upto (s : _root_.Go.ChangeSpec) : _root_.Go.OpenSpec := { _root_.Go.OpenSpec.ofChange s with cond := some uptoSmall }

/-- 'erewhilelaw07.KeycodeEncodes', WHERE WHAT IT READS IS OF BULK AT MOST 1048576: true; the input reads as it did. -/
def keycodeEncodesUptoRow : OpenClaim := { program := "ytippbjpodnnhiaa", sum := "8bc060ac9d02aa8466a8d6c2766c1622efb23e509d6685a43b5daca5c0539dc6", func := "erewhile/erewhilelaw07.KeycodeEncodes", spec := "keycodeEncodes", unfollowed := true, recurses := true, apart := false, narrowed := true }
def KeycodeEncodesUptoSaid : Prop := keycodeEncodesUptoRow.holds Try.pinned (OpenSpec.upto keycodeEncodesSpec)

/-- 'erewhilelaw07.KeycodeDecodes', WHERE WHAT IT READS IS OF BULK AT MOST 1048576: true; the input reads as it did. -/
def keycodeDecodesUptoRow : OpenClaim := { program := "ytippbjpodnnhiaa", sum := "8bc060ac9d02aa8466a8d6c2766c1622efb23e509d6685a43b5daca5c0539dc6", func := "erewhile/erewhilelaw07.KeycodeDecodes", spec := "keycodeDecodes", unfollowed := true, recurses := true, apart := false, narrowed := true }
def KeycodeDecodesUptoSaid : Prop := keycodeDecodesUptoRow.holds Try.pinned (OpenSpec.upto keycodeDecodesSpec)

/-- 'erewhilelaw07.KeycodeBack', WHERE WHAT IT READS IS OF BULK AT MOST 1048576: true; the input reads as it did. -/
def keycodeBackUptoRow : OpenClaim := { program := "ytippbjpodnnhiaa", sum := "8bc060ac9d02aa8466a8d6c2766c1622efb23e509d6685a43b5daca5c0539dc6", func := "erewhile/erewhilelaw07.KeycodeBack", spec := "keycodeBack", inPlace := ["slices.overlaps[erewhile/keytree.Held]"], unfollowed := true, recurses := true, apart := false, narrowed := true }
def KeycodeBackUptoSaid : Prop := keycodeBackUptoRow.holds Try.pinned (OpenSpec.upto keycodeBackSpec)

/-- 'erewhilelaw07.KeycodeCut', WHERE WHAT IT READS IS OF BULK AT MOST 1048576: true; the input reads as it did. -/
def keycodeCutUptoRow : OpenClaim := { program := "ytippbjpodnnhiaa", sum := "8bc060ac9d02aa8466a8d6c2766c1622efb23e509d6685a43b5daca5c0539dc6", func := "erewhile/erewhilelaw07.KeycodeCut", spec := "keycodeCut", inPlace := ["slices.overlaps[erewhile/keytree.Held]"], unfollowed := true, recurses := true, apart := false, narrowed := true }
def KeycodeCutUptoSaid : Prop := keycodeCutUptoRow.holds Try.pinned (OpenSpec.upto keycodeCutSpec)

/-- 'erewhilelaw07.KeycodeSpoilt', WHERE WHAT IT READS IS OF BULK AT MOST 1048576: true; the input reads as it did. -/
def keycodeSpoiltUptoRow : OpenClaim := { program := "ytippbjpodnnhiaa", sum := "8bc060ac9d02aa8466a8d6c2766c1622efb23e509d6685a43b5daca5c0539dc6", func := "erewhile/erewhilelaw07.KeycodeSpoilt", spec := "keycodeSpoilt", inPlace := ["slices.overlaps[erewhile/keytree.Held]"], unfollowed := true, recurses := true, apart := false, narrowed := true }
def KeycodeSpoiltUptoSaid : Prop := keycodeSpoiltUptoRow.holds Try.pinned (OpenSpec.upto keycodeSpoiltSpec)

/-- 'erewhilelaw07.KeycodeOrder', WHERE WHAT IT READS IS OF BULK AT MOST 1048576: true; the input reads as it did. -/
def keycodeOrderUptoRow : OpenClaim := { program := "ytippbjpodnnhiaa", sum := "8bc060ac9d02aa8466a8d6c2766c1622efb23e509d6685a43b5daca5c0539dc6", func := "erewhile/erewhilelaw07.KeycodeOrder", spec := "keycodeOrder", inPlace := ["slices.overlaps[erewhile/keytree.Held]"], unfollowed := true, recurses := true, apart := false, narrowed := true }
def KeycodeOrderUptoSaid : Prop := keycodeOrderUptoRow.holds Try.pinned (OpenSpec.upto keycodeOrderSpec)

/-- 'erewhilelaw07.KeycodeFew', WHERE WHAT IT READS IS OF BULK AT MOST 1048576: true; the input reads as it did. -/
def keycodeFewUptoRow : OpenClaim := { program := "ytippbjpodnnhiaa", sum := "8bc060ac9d02aa8466a8d6c2766c1622efb23e509d6685a43b5daca5c0539dc6", func := "erewhile/erewhilelaw07.KeycodeFew", spec := "keycodeFew", inPlace := ["slices.overlaps[erewhile/keytree.Held]"], unfollowed := true, recurses := true, apart := false, narrowed := true }
def KeycodeFewUptoSaid : Prop := keycodeFewUptoRow.holds Try.pinned (OpenSpec.upto keycodeFewSpec)

/-- 'erewhilelaw07.KeycodeAlike', WHERE WHAT IT READS IS OF BULK AT MOST 1048576: true; the input reads as it did. -/
def keycodeAlikeUptoRow : OpenClaim := { program := "ytippbjpodnnhiaa", sum := "8bc060ac9d02aa8466a8d6c2766c1622efb23e509d6685a43b5daca5c0539dc6", func := "erewhile/erewhilelaw07.KeycodeAlike", spec := "keycodeAlike", inPlace := ["slices.overlaps[erewhile/keytree.Held]"], unfollowed := true, recurses := true, apart := false, narrowed := true }
def KeycodeAlikeUptoSaid : Prop := keycodeAlikeUptoRow.holds Try.pinned (OpenSpec.upto keycodeAlikeSpec)

/-- 'erewhiletop.WholeLeaves', WHERE WHAT IT READS IS OF BULK AT MOST 1048576: true; the input reads as it did. -/
def wholeLeavesUptoRow : OpenClaim := { program := "ytippbjpodnnhiaa", sum := "8bc060ac9d02aa8466a8d6c2766c1622efb23e509d6685a43b5daca5c0539dc6", func := "erewhile/erewhiletop.WholeLeaves", spec := "wholeLeaves", inPlace := ["slices.overlaps[erewhile/keytree.Held]"], unfollowed := true, recurses := true, apart := false, narrowed := true }
def WholeLeavesUptoSaid : Prop := wholeLeavesUptoRow.holds Try.pinned (OpenSpec.upto wholeLeavesSpec)

end Rows
end Go.Proofs.Ytippbjpodnnhiaa
