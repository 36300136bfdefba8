/-
  No cell of these rows narrows 'for every input' (looked for: loops, veiled, ifaces, maps, wideKeys, modest, calm, conditions, laid).
  DERIVED. THE GIVEN ROWS OF THIS SEAT. 16 by the template 'for every input the law returns true; each argument reads behind the call as it read before'; 0 by the template 'total and deterministic' (their statements: YtpmmpnhdimgkhaaTotals.lean).
  GIVEN WITH THE SEED: the statements are not yours to turn. If you find one false, say at which input.
  Laid BY PROGRAM, IN A SANDBOX (cutbox-rows.mjs): the forced cells as the released guide's own fill.sh prints them over the translation c2172478aa24622a… (all of the seat's roots in one cut). By AI agents, Wed Nov 11 2026. No macro, syntax, notation, axiom, sorry.
-/
import Derived.Test.YtpmmpnhdimgkhaaChecked
import GoSem.Claim
import GoSem.ClaimJoined
import GoSem.ClaimMapViews
import Derived.JoinedTies
import Derived.KernelRfl
namespace Go.Proofs.Ytpmmpnhdimgkhaa
/- THE CELL 'sum', in the pinned program and in every row, IS THE sha256 OF THE DUMP (.gsa) THAT YtpmmpnhdimgkhaaProg.lean LOADS. Nothing in Lean hashes anything: it is a label: what it is worth is what the hold of that sum in a sandbox is worth. -/
noncomputable def Try.pinned : Pinned := { name := "ytpmmpnhdimgkhaa", sum := "c2172478aa24622acb849319a5841590195ccb3d6e82bb57c4a2c6b8b7622fbf", checked := Try.checked }
namespace Rows
def none {H : Type} : Left H := { results := [], args := [] }

/-- 'laws.FnGroups': WHATEVER THE INPUT: true; the input reads as it did. -/
def fnGroupsSpec : ChangeSpec := { name := "fnGroups", fn := fun _ => fun
  | [d] => { results := [.lit (.bool true)], args := [d] }
  | _ => none }
def fnGroupsRow : OpenClaim := { program := "ytpmmpnhdimgkhaa", sum := "c2172478aa24622acb849319a5841590195ccb3d6e82bb57c4a2c6b8b7622fbf", func := "loop.example/g01108/laws.FnGroups", spec := "fnGroups", inPlace := ["internal/abi.NoEscape"], unfollowed := true, recurses := true, apart := false }
def FnGroupsSaid : Prop := fnGroupsRow.holds Try.pinned (OpenSpec.ofChange fnGroupsSpec)

/-- ITS FALSE NEIGHBOUR: 'it returns false'. Refute it at one input. -/
def fnGroupsWrong : ChangeSpec := { name := "fnGroups", fn := fun _ => fun
  | [d] => { results := [.lit (.bool false)], args := [d] }
  | _ => none }
def FnGroupsWrongFalsely : Prop := fnGroupsRow.holds Try.pinned (OpenSpec.ofChange fnGroupsWrong)

/-- 'laws.FnPetries': WHATEVER THE INPUT: true; the input reads as it did. -/
def fnPetriesSpec : ChangeSpec := { name := "fnPetries", fn := fun _ => fun
  | [d] => { results := [.lit (.bool true)], args := [d] }
  | _ => none }
def fnPetriesRow : OpenClaim := { program := "ytpmmpnhdimgkhaa", sum := "c2172478aa24622acb849319a5841590195ccb3d6e82bb57c4a2c6b8b7622fbf", func := "loop.example/g01108/laws.FnPetries", spec := "fnPetries", unfollowed := true, recurses := true, apart := false }
def FnPetriesSaid : Prop := fnPetriesRow.holds Try.pinned (OpenSpec.ofChange fnPetriesSpec)

/-- ITS FALSE NEIGHBOUR: 'it returns false'. Refute it at one input. -/
def fnPetriesWrong : ChangeSpec := { name := "fnPetries", fn := fun _ => fun
  | [d] => { results := [.lit (.bool false)], args := [d] }
  | _ => none }
def FnPetriesWrongFalsely : Prop := fnPetriesRow.holds Try.pinned (OpenSpec.ofChange fnPetriesWrong)

/-- 'laws.FnReplacedMoves': WHATEVER THE INPUT: true; the input reads as it did. -/
def fnReplacedMovesSpec : ChangeSpec := { name := "fnReplacedMoves", fn := fun _ => fun
  | [d] => { results := [.lit (.bool true)], args := [d] }
  | _ => none }
def fnReplacedMovesRow : OpenClaim := { program := "ytpmmpnhdimgkhaa", sum := "c2172478aa24622acb849319a5841590195ccb3d6e82bb57c4a2c6b8b7622fbf", func := "loop.example/g01108/laws.FnReplacedMoves", spec := "fnReplacedMoves", unfollowed := true, recurses := true, apart := false }
def FnReplacedMovesSaid : Prop := fnReplacedMovesRow.holds Try.pinned (OpenSpec.ofChange fnReplacedMovesSpec)

/-- ITS FALSE NEIGHBOUR: 'it returns false'. Refute it at one input. -/
def fnReplacedMovesWrong : ChangeSpec := { name := "fnReplacedMoves", fn := fun _ => fun
  | [d] => { results := [.lit (.bool false)], args := [d] }
  | _ => none }
def FnReplacedMovesWrongFalsely : Prop := fnReplacedMovesRow.holds Try.pinned (OpenSpec.ofChange fnReplacedMovesWrong)

/-- 'laws.FnExtensions': WHATEVER THE INPUT: true; the input reads as it did. -/
def fnExtensionsSpec : ChangeSpec := { name := "fnExtensions", fn := fun _ => fun
  | [d] => { results := [.lit (.bool true)], args := [d] }
  | _ => none }
def fnExtensionsRow : OpenClaim := { program := "ytpmmpnhdimgkhaa", sum := "c2172478aa24622acb849319a5841590195ccb3d6e82bb57c4a2c6b8b7622fbf", func := "loop.example/g01108/laws.FnExtensions", spec := "fnExtensions", inPlace := ["slices.overlaps[[]int64]"], unfollowed := true, recurses := true, apart := false }
def FnExtensionsSaid : Prop := fnExtensionsRow.holds Try.pinned (OpenSpec.ofChange fnExtensionsSpec)

/-- ITS FALSE NEIGHBOUR: 'it returns false'. Refute it at one input. -/
def fnExtensionsWrong : ChangeSpec := { name := "fnExtensions", fn := fun _ => fun
  | [d] => { results := [.lit (.bool false)], args := [d] }
  | _ => none }
def FnExtensionsWrongFalsely : Prop := fnExtensionsRow.holds Try.pinned (OpenSpec.ofChange fnExtensionsWrong)

/-- 'laws.FnExactGroupElements': WHATEVER THE INPUT: true; the input reads as it did. -/
def fnExactGroupElementsSpec : ChangeSpec := { name := "fnExactGroupElements", fn := fun _ => fun
  | [d1, d2] => { results := [.lit (.bool true)], args := [d1, d2] }
  | _ => none }
def fnExactGroupElementsRow : OpenClaim := { program := "ytpmmpnhdimgkhaa", sum := "c2172478aa24622acb849319a5841590195ccb3d6e82bb57c4a2c6b8b7622fbf", func := "loop.example/g01108/laws.FnExactGroupElements", spec := "fnExactGroupElements", inPlace := ["internal/abi.NoEscape"], unfollowed := true, recurses := true, apart := false }
def FnExactGroupElementsSaid : Prop := fnExactGroupElementsRow.holds Try.pinned (OpenSpec.ofChange fnExactGroupElementsSpec)

/-- ITS FALSE NEIGHBOUR: 'it returns false'. Refute it at one input. -/
def fnExactGroupElementsWrong : ChangeSpec := { name := "fnExactGroupElements", fn := fun _ => fun
  | [d1, d2] => { results := [.lit (.bool false)], args := [d1, d2] }
  | _ => none }
def FnExactGroupElementsWrongFalsely : Prop := fnExactGroupElementsRow.holds Try.pinned (OpenSpec.ofChange fnExactGroupElementsWrong)

/-- 'laws.FnExactReplaceMoves': WHATEVER THE INPUT: true; the input reads as it did. -/
def fnExactReplaceMovesSpec : ChangeSpec := { name := "fnExactReplaceMoves", fn := fun _ => fun
  | [d1, d2] => { results := [.lit (.bool true)], args := [d1, d2] }
  | _ => none }
def fnExactReplaceMovesRow : OpenClaim := { program := "ytpmmpnhdimgkhaa", sum := "c2172478aa24622acb849319a5841590195ccb3d6e82bb57c4a2c6b8b7622fbf", func := "loop.example/g01108/laws.FnExactReplaceMoves", spec := "fnExactReplaceMoves", apart := false }
def FnExactReplaceMovesSaid : Prop := fnExactReplaceMovesRow.holds Try.pinned (OpenSpec.ofChange fnExactReplaceMovesSpec)

/-- ITS FALSE NEIGHBOUR: 'it returns false'. Refute it at one input. -/
def fnExactReplaceMovesWrong : ChangeSpec := { name := "fnExactReplaceMoves", fn := fun _ => fun
  | [d1, d2] => { results := [.lit (.bool false)], args := [d1, d2] }
  | _ => none }
def FnExactReplaceMovesWrongFalsely : Prop := fnExactReplaceMovesRow.holds Try.pinned (OpenSpec.ofChange fnExactReplaceMovesWrong)

/-- 'laws.FnExactDualOf': WHATEVER THE INPUT: true; the input reads as it did. -/
def fnExactDualOfSpec : ChangeSpec := { name := "fnExactDualOf", fn := fun _ => fun
  | [d] => { results := [.lit (.bool true)], args := [d] }
  | _ => none }
def fnExactDualOfRow : OpenClaim := { program := "ytpmmpnhdimgkhaa", sum := "c2172478aa24622acb849319a5841590195ccb3d6e82bb57c4a2c6b8b7622fbf", func := "loop.example/g01108/laws.FnExactDualOf", spec := "fnExactDualOf", unfollowed := true, recurses := true, apart := false }
def FnExactDualOfSaid : Prop := fnExactDualOfRow.holds Try.pinned (OpenSpec.ofChange fnExactDualOfSpec)

/-- ITS FALSE NEIGHBOUR: 'it returns false'. Refute it at one input. -/
def fnExactDualOfWrong : ChangeSpec := { name := "fnExactDualOf", fn := fun _ => fun
  | [d] => { results := [.lit (.bool false)], args := [d] }
  | _ => none }
def FnExactDualOfWrongFalsely : Prop := fnExactDualOfRow.holds Try.pinned (OpenSpec.ofChange fnExactDualOfWrong)

/-- 'laws.FnExactPetrieOf': WHATEVER THE INPUT: true; the input reads as it did. -/
def fnExactPetrieOfSpec : ChangeSpec := { name := "fnExactPetrieOf", fn := fun _ => fun
  | [d] => { results := [.lit (.bool true)], args := [d] }
  | _ => none }
def fnExactPetrieOfRow : OpenClaim := { program := "ytpmmpnhdimgkhaa", sum := "c2172478aa24622acb849319a5841590195ccb3d6e82bb57c4a2c6b8b7622fbf", func := "loop.example/g01108/laws.FnExactPetrieOf", spec := "fnExactPetrieOf", unfollowed := true, recurses := true, apart := false }
def FnExactPetrieOfSaid : Prop := fnExactPetrieOfRow.holds Try.pinned (OpenSpec.ofChange fnExactPetrieOfSpec)

/-- ITS FALSE NEIGHBOUR: 'it returns false'. Refute it at one input. -/
def fnExactPetrieOfWrong : ChangeSpec := { name := "fnExactPetrieOf", fn := fun _ => fun
  | [d] => { results := [.lit (.bool false)], args := [d] }
  | _ => none }
def FnExactPetrieOfWrongFalsely : Prop := fnExactPetrieOfRow.holds Try.pinned (OpenSpec.ofChange fnExactPetrieOfWrong)

/-- 'laws.FnExactOppositeOf': WHATEVER THE INPUT: true; the input reads as it did. -/
def fnExactOppositeOfSpec : ChangeSpec := { name := "fnExactOppositeOf", fn := fun _ => fun
  | [d] => { results := [.lit (.bool true)], args := [d] }
  | _ => none }
def fnExactOppositeOfRow : OpenClaim := { program := "ytpmmpnhdimgkhaa", sum := "c2172478aa24622acb849319a5841590195ccb3d6e82bb57c4a2c6b8b7622fbf", func := "loop.example/g01108/laws.FnExactOppositeOf", spec := "fnExactOppositeOf", unfollowed := true, recurses := true, apart := false }
def FnExactOppositeOfSaid : Prop := fnExactOppositeOfRow.holds Try.pinned (OpenSpec.ofChange fnExactOppositeOfSpec)

/-- ITS FALSE NEIGHBOUR: 'it returns false'. Refute it at one input. -/
def fnExactOppositeOfWrong : ChangeSpec := { name := "fnExactOppositeOf", fn := fun _ => fun
  | [d] => { results := [.lit (.bool false)], args := [d] }
  | _ => none }
def FnExactOppositeOfWrongFalsely : Prop := fnExactOppositeOfRow.holds Try.pinned (OpenSpec.ofChange fnExactOppositeOfWrong)

/-- 'laws.FnExactHoleOf': WHATEVER THE INPUT: true; the input reads as it did. -/
def fnExactHoleOfSpec : ChangeSpec := { name := "fnExactHoleOf", fn := fun _ => fun
  | [d1, d2] => { results := [.lit (.bool true)], args := [d1, d2] }
  | _ => none }
def fnExactHoleOfRow : OpenClaim := { program := "ytpmmpnhdimgkhaa", sum := "c2172478aa24622acb849319a5841590195ccb3d6e82bb57c4a2c6b8b7622fbf", func := "loop.example/g01108/laws.FnExactHoleOf", spec := "fnExactHoleOf", unfollowed := true, recurses := true, apart := false }
def FnExactHoleOfSaid : Prop := fnExactHoleOfRow.holds Try.pinned (OpenSpec.ofChange fnExactHoleOfSpec)

/-- ITS FALSE NEIGHBOUR: 'it returns false'. Refute it at one input. -/
def fnExactHoleOfWrong : ChangeSpec := { name := "fnExactHoleOf", fn := fun _ => fun
  | [d1, d2] => { results := [.lit (.bool false)], args := [d1, d2] }
  | _ => none }
def FnExactHoleOfWrongFalsely : Prop := fnExactHoleOfRow.holds Try.pinned (OpenSpec.ofChange fnExactHoleOfWrong)

/-- 'laws.FnExactHalfOf': WHATEVER THE INPUT: true; the input reads as it did. -/
def fnExactHalfOfSpec : ChangeSpec := { name := "fnExactHalfOf", fn := fun _ => fun
  | [d] => { results := [.lit (.bool true)], args := [d] }
  | _ => none }
def fnExactHalfOfRow : OpenClaim := { program := "ytpmmpnhdimgkhaa", sum := "c2172478aa24622acb849319a5841590195ccb3d6e82bb57c4a2c6b8b7622fbf", func := "loop.example/g01108/laws.FnExactHalfOf", spec := "fnExactHalfOf", unfollowed := true, recurses := true, apart := false }
def FnExactHalfOfSaid : Prop := fnExactHalfOfRow.holds Try.pinned (OpenSpec.ofChange fnExactHalfOfSpec)

/-- ITS FALSE NEIGHBOUR: 'it returns false'. Refute it at one input. -/
def fnExactHalfOfWrong : ChangeSpec := { name := "fnExactHalfOf", fn := fun _ => fun
  | [d] => { results := [.lit (.bool false)], args := [d] }
  | _ => none }
def FnExactHalfOfWrongFalsely : Prop := fnExactHalfOfRow.holds Try.pinned (OpenSpec.ofChange fnExactHalfOfWrong)

/-- 'laws.FnExactIsSelfDual': WHATEVER THE INPUT: true; the input reads as it did. -/
def fnExactIsSelfDualSpec : ChangeSpec := { name := "fnExactIsSelfDual", fn := fun _ => fun
  | [d] => { results := [.lit (.bool true)], args := [d] }
  | _ => none }
def fnExactIsSelfDualRow : OpenClaim := { program := "ytpmmpnhdimgkhaa", sum := "c2172478aa24622acb849319a5841590195ccb3d6e82bb57c4a2c6b8b7622fbf", func := "loop.example/g01108/laws.FnExactIsSelfDual", spec := "fnExactIsSelfDual", unfollowed := true, recurses := true, apart := false }
def FnExactIsSelfDualSaid : Prop := fnExactIsSelfDualRow.holds Try.pinned (OpenSpec.ofChange fnExactIsSelfDualSpec)

/-- ITS FALSE NEIGHBOUR: 'it returns false'. Refute it at one input. -/
def fnExactIsSelfDualWrong : ChangeSpec := { name := "fnExactIsSelfDual", fn := fun _ => fun
  | [d] => { results := [.lit (.bool false)], args := [d] }
  | _ => none }
def FnExactIsSelfDualWrongFalsely : Prop := fnExactIsSelfDualRow.holds Try.pinned (OpenSpec.ofChange fnExactIsSelfDualWrong)

/-- 'laws.FnExactIsSelfPetrie': WHATEVER THE INPUT: true; the input reads as it did. -/
def fnExactIsSelfPetrieSpec : ChangeSpec := { name := "fnExactIsSelfPetrie", fn := fun _ => fun
  | [d] => { results := [.lit (.bool true)], args := [d] }
  | _ => none }
def fnExactIsSelfPetrieRow : OpenClaim := { program := "ytpmmpnhdimgkhaa", sum := "c2172478aa24622acb849319a5841590195ccb3d6e82bb57c4a2c6b8b7622fbf", func := "loop.example/g01108/laws.FnExactIsSelfPetrie", spec := "fnExactIsSelfPetrie", unfollowed := true, recurses := true, apart := false }
def FnExactIsSelfPetrieSaid : Prop := fnExactIsSelfPetrieRow.holds Try.pinned (OpenSpec.ofChange fnExactIsSelfPetrieSpec)

/-- ITS FALSE NEIGHBOUR: 'it returns false'. Refute it at one input. -/
def fnExactIsSelfPetrieWrong : ChangeSpec := { name := "fnExactIsSelfPetrie", fn := fun _ => fun
  | [d] => { results := [.lit (.bool false)], args := [d] }
  | _ => none }
def FnExactIsSelfPetrieWrongFalsely : Prop := fnExactIsSelfPetrieRow.holds Try.pinned (OpenSpec.ofChange fnExactIsSelfPetrieWrong)

/-- 'laws.FnExactExtendManiplex': WHATEVER THE INPUT: true; the input reads as it did. -/
def fnExactExtendManiplexSpec : ChangeSpec := { name := "fnExactExtendManiplex", fn := fun _ => fun
  | [d] => { results := [.lit (.bool true)], args := [d] }
  | _ => none }
def fnExactExtendManiplexRow : OpenClaim := { program := "ytpmmpnhdimgkhaa", sum := "c2172478aa24622acb849319a5841590195ccb3d6e82bb57c4a2c6b8b7622fbf", func := "loop.example/g01108/laws.FnExactExtendManiplex", spec := "fnExactExtendManiplex", apart := false }
def FnExactExtendManiplexSaid : Prop := fnExactExtendManiplexRow.holds Try.pinned (OpenSpec.ofChange fnExactExtendManiplexSpec)

/-- ITS FALSE NEIGHBOUR: 'it returns false'. Refute it at one input. -/
def fnExactExtendManiplexWrong : ChangeSpec := { name := "fnExactExtendManiplex", fn := fun _ => fun
  | [d] => { results := [.lit (.bool false)], args := [d] }
  | _ => none }
def FnExactExtendManiplexWrongFalsely : Prop := fnExactExtendManiplexRow.holds Try.pinned (OpenSpec.ofChange fnExactExtendManiplexWrong)

/-- 'laws.FnExactExtendInside': WHATEVER THE INPUT: true; the input reads as it did. -/
def fnExactExtendInsideSpec : ChangeSpec := { name := "fnExactExtendInside", fn := fun _ => fun
  | [d] => { results := [.lit (.bool true)], args := [d] }
  | _ => none }
def fnExactExtendInsideRow : OpenClaim := { program := "ytpmmpnhdimgkhaa", sum := "c2172478aa24622acb849319a5841590195ccb3d6e82bb57c4a2c6b8b7622fbf", func := "loop.example/g01108/laws.FnExactExtendInside", spec := "fnExactExtendInside", inPlace := ["slices.overlaps[[]int64]"], apart := false }
def FnExactExtendInsideSaid : Prop := fnExactExtendInsideRow.holds Try.pinned (OpenSpec.ofChange fnExactExtendInsideSpec)

/-- ITS FALSE NEIGHBOUR: 'it returns false'. Refute it at one input. -/
def fnExactExtendInsideWrong : ChangeSpec := { name := "fnExactExtendInside", fn := fun _ => fun
  | [d] => { results := [.lit (.bool false)], args := [d] }
  | _ => none }
def FnExactExtendInsideWrongFalsely : Prop := fnExactExtendInsideRow.holds Try.pinned (OpenSpec.ofChange fnExactExtendInsideWrong)

/-- 'laws.FnExactPetrieLengths': WHATEVER THE INPUT: true; the input reads as it did. -/
def fnExactPetrieLengthsSpec : ChangeSpec := { name := "fnExactPetrieLengths", fn := fun _ => fun
  | [d] => { results := [.lit (.bool true)], args := [d] }
  | _ => none }
def fnExactPetrieLengthsRow : OpenClaim := { program := "ytpmmpnhdimgkhaa", sum := "c2172478aa24622acb849319a5841590195ccb3d6e82bb57c4a2c6b8b7622fbf", func := "loop.example/g01108/laws.FnExactPetrieLengths", spec := "fnExactPetrieLengths", apart := false }
def FnExactPetrieLengthsSaid : Prop := fnExactPetrieLengthsRow.holds Try.pinned (OpenSpec.ofChange fnExactPetrieLengthsSpec)

/-- ITS FALSE NEIGHBOUR: 'it returns false'. Refute it at one input. -/
def fnExactPetrieLengthsWrong : ChangeSpec := { name := "fnExactPetrieLengths", fn := fun _ => fun
  | [d] => { results := [.lit (.bool false)], args := [d] }
  | _ => none }
def FnExactPetrieLengthsWrongFalsely : Prop := fnExactPetrieLengthsRow.holds Try.pinned (OpenSpec.ofChange fnExactPetrieLengthsWrong)

/- THE SECOND FORM. 'bulk': how many values and letters a reading holds, each counted each time it is reached (what is shared counts as often as it is met; a slice's spare places count too). A statement '..UptoSaid' is the law's where the arguments, and the package variables that the reading takes, are together of bulk at most 1048576: NARROWER than '..Said'. Prove '..Said' where nothing that the law and all that it calls make is longer than what came in: it says more and counts as full. Else prove '..UptoSaid'. A law counts once. -/
mutual
def uptoBulk {H : Type} : DataW H → Nat
  | .lit (.string bytes) => bytes.length + 1
  | .lit _ => 1
  | .nil => 1
  | .ptr d => uptoBulk d + 1
  | .slice elems spare => uptoBulkAll elems + uptoBulkAll spare + 1
  | .agg parts => uptoBulkAll parts + 1
  | .iface _ d => uptoBulk d + 1
  | .map entries => uptoBulkEntries entries + 1
  | .held _ => 1
def uptoBulkAll {H : Type} : List (DataW H) → Nat
  | [] => 0
  | d :: r => uptoBulk d + uptoBulkAll r
def uptoBulkEntries {H : Type} : List (Lit × DataW H) → Nat
  | [] => 0
  | x :: r => uptoBulkEntry x + uptoBulkEntries r
def uptoBulkEntry {H : Type} : Lit × DataW H → Nat
  | (.string bytes, d) => bytes.length + uptoBulk d + 1
  | (_, d) => uptoBulk d + 1
 end
def uptoSmall : (H : Type) → List (DataW H) → Bool := fun _ ds => decide (uptoBulkAll ds ≤ 1048576)
def OpenSpec.upto (s : _root_.Go.ChangeSpec) : _root_.Go.OpenSpec := { _root_.Go.OpenSpec.ofChange s with cond := some uptoSmall }

/-- 'laws.FnGroups', WHERE WHAT IT READS IS OF BULK AT MOST 1048576: true; the input reads as it did. -/
def fnGroupsUptoRow : OpenClaim := { program := "ytpmmpnhdimgkhaa", sum := "c2172478aa24622acb849319a5841590195ccb3d6e82bb57c4a2c6b8b7622fbf", func := "loop.example/g01108/laws.FnGroups", spec := "fnGroups", inPlace := ["internal/abi.NoEscape"], unfollowed := true, recurses := true, apart := false, narrowed := true }
def FnGroupsUptoSaid : Prop := fnGroupsUptoRow.holds Try.pinned (OpenSpec.upto fnGroupsSpec)

/-- 'laws.FnPetries', WHERE WHAT IT READS IS OF BULK AT MOST 1048576: true; the input reads as it did. -/
def fnPetriesUptoRow : OpenClaim := { program := "ytpmmpnhdimgkhaa", sum := "c2172478aa24622acb849319a5841590195ccb3d6e82bb57c4a2c6b8b7622fbf", func := "loop.example/g01108/laws.FnPetries", spec := "fnPetries", unfollowed := true, recurses := true, apart := false, narrowed := true }
def FnPetriesUptoSaid : Prop := fnPetriesUptoRow.holds Try.pinned (OpenSpec.upto fnPetriesSpec)

/-- 'laws.FnReplacedMoves', WHERE WHAT IT READS IS OF BULK AT MOST 1048576: true; the input reads as it did. -/
def fnReplacedMovesUptoRow : OpenClaim := { program := "ytpmmpnhdimgkhaa", sum := "c2172478aa24622acb849319a5841590195ccb3d6e82bb57c4a2c6b8b7622fbf", func := "loop.example/g01108/laws.FnReplacedMoves", spec := "fnReplacedMoves", unfollowed := true, recurses := true, apart := false, narrowed := true }
def FnReplacedMovesUptoSaid : Prop := fnReplacedMovesUptoRow.holds Try.pinned (OpenSpec.upto fnReplacedMovesSpec)

/-- 'laws.FnExtensions', WHERE WHAT IT READS IS OF BULK AT MOST 1048576: true; the input reads as it did. -/
def fnExtensionsUptoRow : OpenClaim := { program := "ytpmmpnhdimgkhaa", sum := "c2172478aa24622acb849319a5841590195ccb3d6e82bb57c4a2c6b8b7622fbf", func := "loop.example/g01108/laws.FnExtensions", spec := "fnExtensions", inPlace := ["slices.overlaps[[]int64]"], unfollowed := true, recurses := true, apart := false, narrowed := true }
def FnExtensionsUptoSaid : Prop := fnExtensionsUptoRow.holds Try.pinned (OpenSpec.upto fnExtensionsSpec)

/-- 'laws.FnExactGroupElements', WHERE WHAT IT READS IS OF BULK AT MOST 1048576: true; the input reads as it did. -/
def fnExactGroupElementsUptoRow : OpenClaim := { program := "ytpmmpnhdimgkhaa", sum := "c2172478aa24622acb849319a5841590195ccb3d6e82bb57c4a2c6b8b7622fbf", func := "loop.example/g01108/laws.FnExactGroupElements", spec := "fnExactGroupElements", inPlace := ["internal/abi.NoEscape"], unfollowed := true, recurses := true, apart := false, narrowed := true }
def FnExactGroupElementsUptoSaid : Prop := fnExactGroupElementsUptoRow.holds Try.pinned (OpenSpec.upto fnExactGroupElementsSpec)

/-- 'laws.FnExactReplaceMoves', WHERE WHAT IT READS IS OF BULK AT MOST 1048576: true; the input reads as it did. -/
def fnExactReplaceMovesUptoRow : OpenClaim := { program := "ytpmmpnhdimgkhaa", sum := "c2172478aa24622acb849319a5841590195ccb3d6e82bb57c4a2c6b8b7622fbf", func := "loop.example/g01108/laws.FnExactReplaceMoves", spec := "fnExactReplaceMoves", apart := false, narrowed := true }
def FnExactReplaceMovesUptoSaid : Prop := fnExactReplaceMovesUptoRow.holds Try.pinned (OpenSpec.upto fnExactReplaceMovesSpec)

/-- 'laws.FnExactDualOf', WHERE WHAT IT READS IS OF BULK AT MOST 1048576: true; the input reads as it did. -/
def fnExactDualOfUptoRow : OpenClaim := { program := "ytpmmpnhdimgkhaa", sum := "c2172478aa24622acb849319a5841590195ccb3d6e82bb57c4a2c6b8b7622fbf", func := "loop.example/g01108/laws.FnExactDualOf", spec := "fnExactDualOf", unfollowed := true, recurses := true, apart := false, narrowed := true }
def FnExactDualOfUptoSaid : Prop := fnExactDualOfUptoRow.holds Try.pinned (OpenSpec.upto fnExactDualOfSpec)

/-- 'laws.FnExactPetrieOf', WHERE WHAT IT READS IS OF BULK AT MOST 1048576: true; the input reads as it did. -/
def fnExactPetrieOfUptoRow : OpenClaim := { program := "ytpmmpnhdimgkhaa", sum := "c2172478aa24622acb849319a5841590195ccb3d6e82bb57c4a2c6b8b7622fbf", func := "loop.example/g01108/laws.FnExactPetrieOf", spec := "fnExactPetrieOf", unfollowed := true, recurses := true, apart := false, narrowed := true }
def FnExactPetrieOfUptoSaid : Prop := fnExactPetrieOfUptoRow.holds Try.pinned (OpenSpec.upto fnExactPetrieOfSpec)

/-- 'laws.FnExactOppositeOf', WHERE WHAT IT READS IS OF BULK AT MOST 1048576: true; the input reads as it did. -/
def fnExactOppositeOfUptoRow : OpenClaim := { program := "ytpmmpnhdimgkhaa", sum := "c2172478aa24622acb849319a5841590195ccb3d6e82bb57c4a2c6b8b7622fbf", func := "loop.example/g01108/laws.FnExactOppositeOf", spec := "fnExactOppositeOf", unfollowed := true, recurses := true, apart := false, narrowed := true }
def FnExactOppositeOfUptoSaid : Prop := fnExactOppositeOfUptoRow.holds Try.pinned (OpenSpec.upto fnExactOppositeOfSpec)

/-- 'laws.FnExactHoleOf', WHERE WHAT IT READS IS OF BULK AT MOST 1048576: true; the input reads as it did. -/
def fnExactHoleOfUptoRow : OpenClaim := { program := "ytpmmpnhdimgkhaa", sum := "c2172478aa24622acb849319a5841590195ccb3d6e82bb57c4a2c6b8b7622fbf", func := "loop.example/g01108/laws.FnExactHoleOf", spec := "fnExactHoleOf", unfollowed := true, recurses := true, apart := false, narrowed := true }
def FnExactHoleOfUptoSaid : Prop := fnExactHoleOfUptoRow.holds Try.pinned (OpenSpec.upto fnExactHoleOfSpec)

/-- 'laws.FnExactHalfOf', WHERE WHAT IT READS IS OF BULK AT MOST 1048576: true; the input reads as it did. -/
def fnExactHalfOfUptoRow : OpenClaim := { program := "ytpmmpnhdimgkhaa", sum := "c2172478aa24622acb849319a5841590195ccb3d6e82bb57c4a2c6b8b7622fbf", func := "loop.example/g01108/laws.FnExactHalfOf", spec := "fnExactHalfOf", unfollowed := true, recurses := true, apart := false, narrowed := true }
def FnExactHalfOfUptoSaid : Prop := fnExactHalfOfUptoRow.holds Try.pinned (OpenSpec.upto fnExactHalfOfSpec)

/-- 'laws.FnExactIsSelfDual', WHERE WHAT IT READS IS OF BULK AT MOST 1048576: true; the input reads as it did. -/
def fnExactIsSelfDualUptoRow : OpenClaim := { program := "ytpmmpnhdimgkhaa", sum := "c2172478aa24622acb849319a5841590195ccb3d6e82bb57c4a2c6b8b7622fbf", func := "loop.example/g01108/laws.FnExactIsSelfDual", spec := "fnExactIsSelfDual", unfollowed := true, recurses := true, apart := false, narrowed := true }
def FnExactIsSelfDualUptoSaid : Prop := fnExactIsSelfDualUptoRow.holds Try.pinned (OpenSpec.upto fnExactIsSelfDualSpec)

/-- 'laws.FnExactIsSelfPetrie', WHERE WHAT IT READS IS OF BULK AT MOST 1048576: true; the input reads as it did. -/
def fnExactIsSelfPetrieUptoRow : OpenClaim := { program := "ytpmmpnhdimgkhaa", sum := "c2172478aa24622acb849319a5841590195ccb3d6e82bb57c4a2c6b8b7622fbf", func := "loop.example/g01108/laws.FnExactIsSelfPetrie", spec := "fnExactIsSelfPetrie", unfollowed := true, recurses := true, apart := false, narrowed := true }
def FnExactIsSelfPetrieUptoSaid : Prop := fnExactIsSelfPetrieUptoRow.holds Try.pinned (OpenSpec.upto fnExactIsSelfPetrieSpec)

/-- 'laws.FnExactExtendManiplex', WHERE WHAT IT READS IS OF BULK AT MOST 1048576: true; the input reads as it did. -/
def fnExactExtendManiplexUptoRow : OpenClaim := { program := "ytpmmpnhdimgkhaa", sum := "c2172478aa24622acb849319a5841590195ccb3d6e82bb57c4a2c6b8b7622fbf", func := "loop.example/g01108/laws.FnExactExtendManiplex", spec := "fnExactExtendManiplex", apart := false, narrowed := true }
def FnExactExtendManiplexUptoSaid : Prop := fnExactExtendManiplexUptoRow.holds Try.pinned (OpenSpec.upto fnExactExtendManiplexSpec)

/-- 'laws.FnExactExtendInside', WHERE WHAT IT READS IS OF BULK AT MOST 1048576: true; the input reads as it did. -/
def fnExactExtendInsideUptoRow : OpenClaim := { program := "ytpmmpnhdimgkhaa", sum := "c2172478aa24622acb849319a5841590195ccb3d6e82bb57c4a2c6b8b7622fbf", func := "loop.example/g01108/laws.FnExactExtendInside", spec := "fnExactExtendInside", inPlace := ["slices.overlaps[[]int64]"], apart := false, narrowed := true }
def FnExactExtendInsideUptoSaid : Prop := fnExactExtendInsideUptoRow.holds Try.pinned (OpenSpec.upto fnExactExtendInsideSpec)

/-- 'laws.FnExactPetrieLengths', WHERE WHAT IT READS IS OF BULK AT MOST 1048576: true; the input reads as it did. -/
def fnExactPetrieLengthsUptoRow : OpenClaim := { program := "ytpmmpnhdimgkhaa", sum := "c2172478aa24622acb849319a5841590195ccb3d6e82bb57c4a2c6b8b7622fbf", func := "loop.example/g01108/laws.FnExactPetrieLengths", spec := "fnExactPetrieLengths", apart := false, narrowed := true }
def FnExactPetrieLengthsUptoSaid : Prop := fnExactPetrieLengthsUptoRow.holds Try.pinned (OpenSpec.upto fnExactPetrieLengthsSpec)

end Rows
end Go.Proofs.Ytpmmpnhdimgkhaa
