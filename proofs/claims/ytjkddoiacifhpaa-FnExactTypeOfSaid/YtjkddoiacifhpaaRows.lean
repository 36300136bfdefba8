/-
  No cell of these rows narrows 'for every input' (looked for: loops, veiled, ifaces, maps, wideKeys, modest, calm, conditions, laid).
  DERIVED. THE GIVEN ROWS OF THIS SEAT. 22 by the template 'for every input the law returns true; each argument reads behind the call as it read before'; 0 by the template 'total and deterministic' (their statements: YtjkddoiacifhpaaTotals.lean).
  GIVEN WITH THE SEED: the statements are not yours to turn. If you find one false, say at which input.
  Laid BY PROGRAM, IN A SANDBOX (cutbox-rows.mjs): the forced cells as the released guide's own fill.sh prints them over the translation 0980c160628b8838… (all of the seat's roots in one cut). By AI agents, Wed Nov 11 2026. No macro, syntax, notation, axiom, sorry.
-/
import Derived.Test.YtjkddoiacifhpaaChecked
import GoSem.Claim
import GoSem.ClaimJoined
import GoSem.ClaimMapViews
import Derived.JoinedTies
import Derived.KernelRfl
namespace Go.Proofs.Ytjkddoiacifhpaa
/- THE CELL 'sum', in the pinned program and in every row, IS THE sha256 OF THE DUMP (.gsa) THAT YtjkddoiacifhpaaProg.lean LOADS. Nothing in Lean hashes anything: it is a label: what it is worth is what the hold of that sum in a sandbox is worth. -/
noncomputable def Try.pinned : Pinned := { name := "ytjkddoiacifhpaa", sum := "0980c160628b8838a4acbbd11bf6a75ed5793c816ed52eaba554054b7ffa4ae6", checked := Try.checked }
namespace Rows
def none {H : Type} : Left H := { results := [], args := [] }

/-- 'laws.FnConjugates': WHATEVER THE INPUT: true; the input reads as it did. -/
def fnConjugatesSpec : ChangeSpec := { name := "fnConjugates", fn := fun _ => fun
  | [d] => { results := [.lit (.bool true)], args := [d] }
  | _ => none }
def fnConjugatesRow : OpenClaim := { program := "ytjkddoiacifhpaa", sum := "0980c160628b8838a4acbbd11bf6a75ed5793c816ed52eaba554054b7ffa4ae6", func := "loop.example/g01108/laws.FnConjugates", spec := "fnConjugates", recurses := true, apart := false }
def FnConjugatesSaid : Prop := fnConjugatesRow.holds Try.pinned (OpenSpec.ofChange fnConjugatesSpec)

/-- ITS FALSE NEIGHBOUR: 'it returns false'. Refute it at one input. -/
def fnConjugatesWrong : ChangeSpec := { name := "fnConjugates", fn := fun _ => fun
  | [d] => { results := [.lit (.bool false)], args := [d] }
  | _ => none }
def FnConjugatesWrongFalsely : Prop := fnConjugatesRow.holds Try.pinned (OpenSpec.ofChange fnConjugatesWrong)

/-- 'laws.FnOrbits': WHATEVER THE INPUT: true; the input reads as it did. -/
def fnOrbitsSpec : ChangeSpec := { name := "fnOrbits", fn := fun _ => fun
  | [d] => { results := [.lit (.bool true)], args := [d] }
  | _ => none }
def fnOrbitsRow : OpenClaim := { program := "ytjkddoiacifhpaa", sum := "0980c160628b8838a4acbbd11bf6a75ed5793c816ed52eaba554054b7ffa4ae6", func := "loop.example/g01108/laws.FnOrbits", spec := "fnOrbits", recurses := true, apart := false }
def FnOrbitsSaid : Prop := fnOrbitsRow.holds Try.pinned (OpenSpec.ofChange fnOrbitsSpec)

/-- ITS FALSE NEIGHBOUR: 'it returns false'. Refute it at one input. -/
def fnOrbitsWrong : ChangeSpec := { name := "fnOrbits", fn := fun _ => fun
  | [d] => { results := [.lit (.bool false)], args := [d] }
  | _ => none }
def FnOrbitsWrongFalsely : Prop := fnOrbitsRow.holds Try.pinned (OpenSpec.ofChange fnOrbitsWrong)

/-- 'laws.FnGroups': WHATEVER THE INPUT: true; the input reads as it did. -/
def fnGroupsSpec : ChangeSpec := { name := "fnGroups", fn := fun _ => fun
  | [d] => { results := [.lit (.bool true)], args := [d] }
  | _ => none }
def fnGroupsRow : OpenClaim := { program := "ytjkddoiacifhpaa", sum := "0980c160628b8838a4acbbd11bf6a75ed5793c816ed52eaba554054b7ffa4ae6", func := "loop.example/g01108/laws.FnGroups", spec := "fnGroups", inPlace := ["internal/abi.NoEscape"], unfollowed := true, recurses := true, apart := false }
def FnGroupsSaid : Prop := fnGroupsRow.holds Try.pinned (OpenSpec.ofChange fnGroupsSpec)

/-- ITS FALSE NEIGHBOUR: 'it returns false'. Refute it at one input. -/
def fnGroupsWrong : ChangeSpec := { name := "fnGroups", fn := fun _ => fun
  | [d] => { results := [.lit (.bool false)], args := [d] }
  | _ => none }
def FnGroupsWrongFalsely : Prop := fnGroupsRow.holds Try.pinned (OpenSpec.ofChange fnGroupsWrong)

/-- 'laws.FnFaces': WHATEVER THE INPUT: true; the input reads as it did. -/
def fnFacesSpec : ChangeSpec := { name := "fnFaces", fn := fun _ => fun
  | [d] => { results := [.lit (.bool true)], args := [d] }
  | _ => none }
def fnFacesRow : OpenClaim := { program := "ytjkddoiacifhpaa", sum := "0980c160628b8838a4acbbd11bf6a75ed5793c816ed52eaba554054b7ffa4ae6", func := "loop.example/g01108/laws.FnFaces", spec := "fnFaces", apart := false }
def FnFacesSaid : Prop := fnFacesRow.holds Try.pinned (OpenSpec.ofChange fnFacesSpec)

/-- ITS FALSE NEIGHBOUR: 'it returns false'. Refute it at one input. -/
def fnFacesWrong : ChangeSpec := { name := "fnFaces", fn := fun _ => fun
  | [d] => { results := [.lit (.bool false)], args := [d] }
  | _ => none }
def FnFacesWrongFalsely : Prop := fnFacesRow.holds Try.pinned (OpenSpec.ofChange fnFacesWrong)

/-- 'laws.FnRenumbered': WHATEVER THE INPUT: true; the input reads as it did. -/
def fnRenumberedSpec : ChangeSpec := { name := "fnRenumbered", fn := fun _ => fun
  | [d] => { results := [.lit (.bool true)], args := [d] }
  | _ => none }
def fnRenumberedRow : OpenClaim := { program := "ytjkddoiacifhpaa", sum := "0980c160628b8838a4acbbd11bf6a75ed5793c816ed52eaba554054b7ffa4ae6", func := "loop.example/g01108/laws.FnRenumbered", spec := "fnRenumbered", unfollowed := true, recurses := true, apart := false }
def FnRenumberedSaid : Prop := fnRenumberedRow.holds Try.pinned (OpenSpec.ofChange fnRenumberedSpec)

/-- ITS FALSE NEIGHBOUR: 'it returns false'. Refute it at one input. -/
def fnRenumberedWrong : ChangeSpec := { name := "fnRenumbered", fn := fun _ => fun
  | [d] => { results := [.lit (.bool false)], args := [d] }
  | _ => none }
def FnRenumberedWrongFalsely : Prop := fnRenumberedRow.holds Try.pinned (OpenSpec.ofChange fnRenumberedWrong)

/-- 'laws.FnPaths': WHATEVER THE INPUT: true; the input reads as it did. -/
def fnPathsSpec : ChangeSpec := { name := "fnPaths", fn := fun _ => fun
  | [d] => { results := [.lit (.bool true)], args := [d] }
  | _ => none }
def fnPathsRow : OpenClaim := { program := "ytjkddoiacifhpaa", sum := "0980c160628b8838a4acbbd11bf6a75ed5793c816ed52eaba554054b7ffa4ae6", func := "loop.example/g01108/laws.FnPaths", spec := "fnPaths", unfollowed := true, recurses := true, apart := false }
def FnPathsSaid : Prop := fnPathsRow.holds Try.pinned (OpenSpec.ofChange fnPathsSpec)

/-- ITS FALSE NEIGHBOUR: 'it returns false'. Refute it at one input. -/
def fnPathsWrong : ChangeSpec := { name := "fnPaths", fn := fun _ => fun
  | [d] => { results := [.lit (.bool false)], args := [d] }
  | _ => none }
def FnPathsWrongFalsely : Prop := fnPathsRow.holds Try.pinned (OpenSpec.ofChange fnPathsWrong)

/-- 'laws.FnColourings': WHATEVER THE INPUT: true; the input reads as it did. -/
def fnColouringsSpec : ChangeSpec := { name := "fnColourings", fn := fun _ => fun
  | [d] => { results := [.lit (.bool true)], args := [d] }
  | _ => none }
def fnColouringsRow : OpenClaim := { program := "ytjkddoiacifhpaa", sum := "0980c160628b8838a4acbbd11bf6a75ed5793c816ed52eaba554054b7ffa4ae6", func := "loop.example/g01108/laws.FnColourings", spec := "fnColourings", apart := false }
def FnColouringsSaid : Prop := fnColouringsRow.holds Try.pinned (OpenSpec.ofChange fnColouringsSpec)

/-- ITS FALSE NEIGHBOUR: 'it returns false'. Refute it at one input. -/
def fnColouringsWrong : ChangeSpec := { name := "fnColourings", fn := fun _ => fun
  | [d] => { results := [.lit (.bool false)], args := [d] }
  | _ => none }
def FnColouringsWrongFalsely : Prop := fnColouringsRow.holds Try.pinned (OpenSpec.ofChange fnColouringsWrong)

/-- 'laws.FnExactGroupElements': WHATEVER THE INPUT: true; the input reads as it did. -/
def fnExactGroupElementsSpec : ChangeSpec := { name := "fnExactGroupElements", fn := fun _ => fun
  | [d1, d2] => { results := [.lit (.bool true)], args := [d1, d2] }
  | _ => none }
def fnExactGroupElementsRow : OpenClaim := { program := "ytjkddoiacifhpaa", sum := "0980c160628b8838a4acbbd11bf6a75ed5793c816ed52eaba554054b7ffa4ae6", func := "loop.example/g01108/laws.FnExactGroupElements", spec := "fnExactGroupElements", inPlace := ["internal/abi.NoEscape"], unfollowed := true, recurses := true, apart := false }
def FnExactGroupElementsSaid : Prop := fnExactGroupElementsRow.holds Try.pinned (OpenSpec.ofChange fnExactGroupElementsSpec)

/-- ITS FALSE NEIGHBOUR: 'it returns false'. Refute it at one input. -/
def fnExactGroupElementsWrong : ChangeSpec := { name := "fnExactGroupElements", fn := fun _ => fun
  | [d1, d2] => { results := [.lit (.bool false)], args := [d1, d2] }
  | _ => none }
def FnExactGroupElementsWrongFalsely : Prop := fnExactGroupElementsRow.holds Try.pinned (OpenSpec.ofChange fnExactGroupElementsWrong)

/-- 'laws.FnExactIsManiplex': WHATEVER THE INPUT: true; the input reads as it did. -/
def fnExactIsManiplexSpec : ChangeSpec := { name := "fnExactIsManiplex", fn := fun _ => fun
  | [d] => { results := [.lit (.bool true)], args := [d] }
  | _ => none }
def fnExactIsManiplexRow : OpenClaim := { program := "ytjkddoiacifhpaa", sum := "0980c160628b8838a4acbbd11bf6a75ed5793c816ed52eaba554054b7ffa4ae6", func := "loop.example/g01108/laws.FnExactIsManiplex", spec := "fnExactIsManiplex", apart := false }
def FnExactIsManiplexSaid : Prop := fnExactIsManiplexRow.holds Try.pinned (OpenSpec.ofChange fnExactIsManiplexSpec)

/-- ITS FALSE NEIGHBOUR: 'it returns false'. Refute it at one input. -/
def fnExactIsManiplexWrong : ChangeSpec := { name := "fnExactIsManiplex", fn := fun _ => fun
  | [d] => { results := [.lit (.bool false)], args := [d] }
  | _ => none }
def FnExactIsManiplexWrongFalsely : Prop := fnExactIsManiplexRow.holds Try.pinned (OpenSpec.ofChange fnExactIsManiplexWrong)

/-- 'laws.FnExactFaceLabels': WHATEVER THE INPUT: true; the input reads as it did. -/
def fnExactFaceLabelsSpec : ChangeSpec := { name := "fnExactFaceLabels", fn := fun _ => fun
  | [d1, d2] => { results := [.lit (.bool true)], args := [d1, d2] }
  | _ => none }
def fnExactFaceLabelsRow : OpenClaim := { program := "ytjkddoiacifhpaa", sum := "0980c160628b8838a4acbbd11bf6a75ed5793c816ed52eaba554054b7ffa4ae6", func := "loop.example/g01108/laws.FnExactFaceLabels", spec := "fnExactFaceLabels", apart := false }
def FnExactFaceLabelsSaid : Prop := fnExactFaceLabelsRow.holds Try.pinned (OpenSpec.ofChange fnExactFaceLabelsSpec)

/-- ITS FALSE NEIGHBOUR: 'it returns false'. Refute it at one input. -/
def fnExactFaceLabelsWrong : ChangeSpec := { name := "fnExactFaceLabels", fn := fun _ => fun
  | [d1, d2] => { results := [.lit (.bool false)], args := [d1, d2] }
  | _ => none }
def FnExactFaceLabelsWrongFalsely : Prop := fnExactFaceLabelsRow.holds Try.pinned (OpenSpec.ofChange fnExactFaceLabelsWrong)

/-- 'laws.FnExactFaceCounts': WHATEVER THE INPUT: true; the input reads as it did. -/
def fnExactFaceCountsSpec : ChangeSpec := { name := "fnExactFaceCounts", fn := fun _ => fun
  | [d] => { results := [.lit (.bool true)], args := [d] }
  | _ => none }
def fnExactFaceCountsRow : OpenClaim := { program := "ytjkddoiacifhpaa", sum := "0980c160628b8838a4acbbd11bf6a75ed5793c816ed52eaba554054b7ffa4ae6", func := "loop.example/g01108/laws.FnExactFaceCounts", spec := "fnExactFaceCounts", apart := false }
def FnExactFaceCountsSaid : Prop := fnExactFaceCountsRow.holds Try.pinned (OpenSpec.ofChange fnExactFaceCountsSpec)

/-- ITS FALSE NEIGHBOUR: 'it returns false'. Refute it at one input. -/
def fnExactFaceCountsWrong : ChangeSpec := { name := "fnExactFaceCounts", fn := fun _ => fun
  | [d] => { results := [.lit (.bool false)], args := [d] }
  | _ => none }
def FnExactFaceCountsWrongFalsely : Prop := fnExactFaceCountsRow.holds Try.pinned (OpenSpec.ofChange fnExactFaceCountsWrong)

/-- 'laws.FnExactEulerCharacteristic': WHATEVER THE INPUT: true; the input reads as it did. -/
def fnExactEulerCharacteristicSpec : ChangeSpec := { name := "fnExactEulerCharacteristic", fn := fun _ => fun
  | [d] => { results := [.lit (.bool true)], args := [d] }
  | _ => none }
def fnExactEulerCharacteristicRow : OpenClaim := { program := "ytjkddoiacifhpaa", sum := "0980c160628b8838a4acbbd11bf6a75ed5793c816ed52eaba554054b7ffa4ae6", func := "loop.example/g01108/laws.FnExactEulerCharacteristic", spec := "fnExactEulerCharacteristic", apart := false }
def FnExactEulerCharacteristicSaid : Prop := fnExactEulerCharacteristicRow.holds Try.pinned (OpenSpec.ofChange fnExactEulerCharacteristicSpec)

/-- ITS FALSE NEIGHBOUR: 'it returns false'. Refute it at one input. -/
def fnExactEulerCharacteristicWrong : ChangeSpec := { name := "fnExactEulerCharacteristic", fn := fun _ => fun
  | [d] => { results := [.lit (.bool false)], args := [d] }
  | _ => none }
def FnExactEulerCharacteristicWrongFalsely : Prop := fnExactEulerCharacteristicRow.holds Try.pinned (OpenSpec.ofChange fnExactEulerCharacteristicWrong)

/-- 'laws.FnExactTypeOf': WHATEVER THE INPUT: true; the input reads as it did. -/
def fnExactTypeOfSpec : ChangeSpec := { name := "fnExactTypeOf", fn := fun _ => fun
  | [d] => { results := [.lit (.bool true)], args := [d] }
  | _ => none }
def fnExactTypeOfRow : OpenClaim := { program := "ytjkddoiacifhpaa", sum := "0980c160628b8838a4acbbd11bf6a75ed5793c816ed52eaba554054b7ffa4ae6", func := "loop.example/g01108/laws.FnExactTypeOf", spec := "fnExactTypeOf", recurses := true, apart := false }
def FnExactTypeOfSaid : Prop := fnExactTypeOfRow.holds Try.pinned (OpenSpec.ofChange fnExactTypeOfSpec)

/-- ITS FALSE NEIGHBOUR: 'it returns false'. Refute it at one input. -/
def fnExactTypeOfWrong : ChangeSpec := { name := "fnExactTypeOf", fn := fun _ => fun
  | [d] => { results := [.lit (.bool false)], args := [d] }
  | _ => none }
def FnExactTypeOfWrongFalsely : Prop := fnExactTypeOfRow.holds Try.pinned (OpenSpec.ofChange fnExactTypeOfWrong)

/-- 'laws.FnExactIsOrientable': WHATEVER THE INPUT: true; the input reads as it did. -/
def fnExactIsOrientableSpec : ChangeSpec := { name := "fnExactIsOrientable", fn := fun _ => fun
  | [d] => { results := [.lit (.bool true)], args := [d] }
  | _ => none }
def fnExactIsOrientableRow : OpenClaim := { program := "ytjkddoiacifhpaa", sum := "0980c160628b8838a4acbbd11bf6a75ed5793c816ed52eaba554054b7ffa4ae6", func := "loop.example/g01108/laws.FnExactIsOrientable", spec := "fnExactIsOrientable", apart := false }
def FnExactIsOrientableSaid : Prop := fnExactIsOrientableRow.holds Try.pinned (OpenSpec.ofChange fnExactIsOrientableSpec)

/-- ITS FALSE NEIGHBOUR: 'it returns false'. Refute it at one input. -/
def fnExactIsOrientableWrong : ChangeSpec := { name := "fnExactIsOrientable", fn := fun _ => fun
  | [d] => { results := [.lit (.bool false)], args := [d] }
  | _ => none }
def FnExactIsOrientableWrongFalsely : Prop := fnExactIsOrientableRow.holds Try.pinned (OpenSpec.ofChange fnExactIsOrientableWrong)

/-- 'laws.FnExactColouringOf': WHATEVER THE INPUT: true; the input reads as it did. -/
def fnExactColouringOfSpec : ChangeSpec := { name := "fnExactColouringOf", fn := fun _ => fun
  | [d] => { results := [.lit (.bool true)], args := [d] }
  | _ => none }
def fnExactColouringOfRow : OpenClaim := { program := "ytjkddoiacifhpaa", sum := "0980c160628b8838a4acbbd11bf6a75ed5793c816ed52eaba554054b7ffa4ae6", func := "loop.example/g01108/laws.FnExactColouringOf", spec := "fnExactColouringOf", apart := false }
def FnExactColouringOfSaid : Prop := fnExactColouringOfRow.holds Try.pinned (OpenSpec.ofChange fnExactColouringOfSpec)

/-- ITS FALSE NEIGHBOUR: 'it returns false'. Refute it at one input. -/
def fnExactColouringOfWrong : ChangeSpec := { name := "fnExactColouringOf", fn := fun _ => fun
  | [d] => { results := [.lit (.bool false)], args := [d] }
  | _ => none }
def FnExactColouringOfWrongFalsely : Prop := fnExactColouringOfRow.holds Try.pinned (OpenSpec.ofChange fnExactColouringOfWrong)

/-- 'laws.FnExactRunMoves': WHATEVER THE INPUT: true; the input reads as it did. -/
def fnExactRunMovesSpec : ChangeSpec := { name := "fnExactRunMoves", fn := fun _ => fun
  | [d1, d2, d3] => { results := [.lit (.bool true)], args := [d1, d2, d3] }
  | _ => none }
def fnExactRunMovesRow : OpenClaim := { program := "ytjkddoiacifhpaa", sum := "0980c160628b8838a4acbbd11bf6a75ed5793c816ed52eaba554054b7ffa4ae6", func := "loop.example/g01108/laws.FnExactRunMoves", spec := "fnExactRunMoves", apart := false }
def FnExactRunMovesSaid : Prop := fnExactRunMovesRow.holds Try.pinned (OpenSpec.ofChange fnExactRunMovesSpec)

/-- ITS FALSE NEIGHBOUR: 'it returns false'. Refute it at one input. -/
def fnExactRunMovesWrong : ChangeSpec := { name := "fnExactRunMoves", fn := fun _ => fun
  | [d1, d2, d3] => { results := [.lit (.bool false)], args := [d1, d2, d3] }
  | _ => none }
def FnExactRunMovesWrongFalsely : Prop := fnExactRunMovesRow.holds Try.pinned (OpenSpec.ofChange fnExactRunMovesWrong)

/-- 'laws.FnExactFirstWord': WHATEVER THE INPUT: true; the input reads as it did. -/
def fnExactFirstWordSpec : ChangeSpec := { name := "fnExactFirstWord", fn := fun _ => fun
  | [d1, d2, d3] => { results := [.lit (.bool true)], args := [d1, d2, d3] }
  | _ => none }
def fnExactFirstWordRow : OpenClaim := { program := "ytjkddoiacifhpaa", sum := "0980c160628b8838a4acbbd11bf6a75ed5793c816ed52eaba554054b7ffa4ae6", func := "loop.example/g01108/laws.FnExactFirstWord", spec := "fnExactFirstWord", unfollowed := true, recurses := true, apart := false }
def FnExactFirstWordSaid : Prop := fnExactFirstWordRow.holds Try.pinned (OpenSpec.ofChange fnExactFirstWordSpec)

/-- ITS FALSE NEIGHBOUR: 'it returns false'. Refute it at one input. -/
def fnExactFirstWordWrong : ChangeSpec := { name := "fnExactFirstWord", fn := fun _ => fun
  | [d1, d2, d3] => { results := [.lit (.bool false)], args := [d1, d2, d3] }
  | _ => none }
def FnExactFirstWordWrongFalsely : Prop := fnExactFirstWordRow.holds Try.pinned (OpenSpec.ofChange fnExactFirstWordWrong)

/-- 'laws.FnExactDistancesFrom': WHATEVER THE INPUT: true; the input reads as it did. -/
def fnExactDistancesFromSpec : ChangeSpec := { name := "fnExactDistancesFrom", fn := fun _ => fun
  | [d1, d2] => { results := [.lit (.bool true)], args := [d1, d2] }
  | _ => none }
def fnExactDistancesFromRow : OpenClaim := { program := "ytjkddoiacifhpaa", sum := "0980c160628b8838a4acbbd11bf6a75ed5793c816ed52eaba554054b7ffa4ae6", func := "loop.example/g01108/laws.FnExactDistancesFrom", spec := "fnExactDistancesFrom", apart := false }
def FnExactDistancesFromSaid : Prop := fnExactDistancesFromRow.holds Try.pinned (OpenSpec.ofChange fnExactDistancesFromSpec)

/-- ITS FALSE NEIGHBOUR: 'it returns false'. Refute it at one input. -/
def fnExactDistancesFromWrong : ChangeSpec := { name := "fnExactDistancesFrom", fn := fun _ => fun
  | [d1, d2] => { results := [.lit (.bool false)], args := [d1, d2] }
  | _ => none }
def FnExactDistancesFromWrongFalsely : Prop := fnExactDistancesFromRow.holds Try.pinned (OpenSpec.ofChange fnExactDistancesFromWrong)

/-- 'laws.FnExactDiameterOf': WHATEVER THE INPUT: true; the input reads as it did. -/
def fnExactDiameterOfSpec : ChangeSpec := { name := "fnExactDiameterOf", fn := fun _ => fun
  | [d] => { results := [.lit (.bool true)], args := [d] }
  | _ => none }
def fnExactDiameterOfRow : OpenClaim := { program := "ytjkddoiacifhpaa", sum := "0980c160628b8838a4acbbd11bf6a75ed5793c816ed52eaba554054b7ffa4ae6", func := "loop.example/g01108/laws.FnExactDiameterOf", spec := "fnExactDiameterOf", apart := false }
def FnExactDiameterOfSaid : Prop := fnExactDiameterOfRow.holds Try.pinned (OpenSpec.ofChange fnExactDiameterOfSpec)

/-- ITS FALSE NEIGHBOUR: 'it returns false'. Refute it at one input. -/
def fnExactDiameterOfWrong : ChangeSpec := { name := "fnExactDiameterOf", fn := fun _ => fun
  | [d] => { results := [.lit (.bool false)], args := [d] }
  | _ => none }
def FnExactDiameterOfWrongFalsely : Prop := fnExactDiameterOfRow.holds Try.pinned (OpenSpec.ofChange fnExactDiameterOfWrong)

/-- 'laws.FnExactFormFrom': WHATEVER THE INPUT: true; the input reads as it did. -/
def fnExactFormFromSpec : ChangeSpec := { name := "fnExactFormFrom", fn := fun _ => fun
  | [d1, d2] => { results := [.lit (.bool true)], args := [d1, d2] }
  | _ => none }
def fnExactFormFromRow : OpenClaim := { program := "ytjkddoiacifhpaa", sum := "0980c160628b8838a4acbbd11bf6a75ed5793c816ed52eaba554054b7ffa4ae6", func := "loop.example/g01108/laws.FnExactFormFrom", spec := "fnExactFormFrom", apart := false }
def FnExactFormFromSaid : Prop := fnExactFormFromRow.holds Try.pinned (OpenSpec.ofChange fnExactFormFromSpec)

/-- ITS FALSE NEIGHBOUR: 'it returns false'. Refute it at one input. -/
def fnExactFormFromWrong : ChangeSpec := { name := "fnExactFormFrom", fn := fun _ => fun
  | [d1, d2] => { results := [.lit (.bool false)], args := [d1, d2] }
  | _ => none }
def FnExactFormFromWrongFalsely : Prop := fnExactFormFromRow.holds Try.pinned (OpenSpec.ofChange fnExactFormFromWrong)

/-- 'laws.FnExactLeastForm': WHATEVER THE INPUT: true; the input reads as it did. -/
def fnExactLeastFormSpec : ChangeSpec := { name := "fnExactLeastForm", fn := fun _ => fun
  | [d] => { results := [.lit (.bool true)], args := [d] }
  | _ => none }
def fnExactLeastFormRow : OpenClaim := { program := "ytjkddoiacifhpaa", sum := "0980c160628b8838a4acbbd11bf6a75ed5793c816ed52eaba554054b7ffa4ae6", func := "loop.example/g01108/laws.FnExactLeastForm", spec := "fnExactLeastForm", unfollowed := true, recurses := true, apart := false }
def FnExactLeastFormSaid : Prop := fnExactLeastFormRow.holds Try.pinned (OpenSpec.ofChange fnExactLeastFormSpec)

/-- ITS FALSE NEIGHBOUR: 'it returns false'. Refute it at one input. -/
def fnExactLeastFormWrong : ChangeSpec := { name := "fnExactLeastForm", fn := fun _ => fun
  | [d] => { results := [.lit (.bool false)], args := [d] }
  | _ => none }
def FnExactLeastFormWrongFalsely : Prop := fnExactLeastFormRow.holds Try.pinned (OpenSpec.ofChange fnExactLeastFormWrong)

/-- 'laws.FnExactRenumberFlags': WHATEVER THE INPUT: true; the input reads as it did. -/
def fnExactRenumberFlagsSpec : ChangeSpec := { name := "fnExactRenumberFlags", fn := fun _ => fun
  | [d1, d2] => { results := [.lit (.bool true)], args := [d1, d2] }
  | _ => none }
def fnExactRenumberFlagsRow : OpenClaim := { program := "ytjkddoiacifhpaa", sum := "0980c160628b8838a4acbbd11bf6a75ed5793c816ed52eaba554054b7ffa4ae6", func := "loop.example/g01108/laws.FnExactRenumberFlags", spec := "fnExactRenumberFlags", apart := false }
def FnExactRenumberFlagsSaid : Prop := fnExactRenumberFlagsRow.holds Try.pinned (OpenSpec.ofChange fnExactRenumberFlagsSpec)

/-- ITS FALSE NEIGHBOUR: 'it returns false'. Refute it at one input. -/
def fnExactRenumberFlagsWrong : ChangeSpec := { name := "fnExactRenumberFlags", fn := fun _ => fun
  | [d1, d2] => { results := [.lit (.bool false)], args := [d1, d2] }
  | _ => none }
def FnExactRenumberFlagsWrongFalsely : Prop := fnExactRenumberFlagsRow.holds Try.pinned (OpenSpec.ofChange fnExactRenumberFlagsWrong)

/- THE SECOND FORM. 'bulk': how many values and letters a reading holds, each counted each time it is reached (what is shared counts as often as it is met; a slice's spare places count too). A statement '..UptoSaid' is the law's where the arguments, and the package variables that the reading takes, are together of bulk at most 1048576: NARROWER than '..Said'. Prove '..Said' where nothing that the law and all that it calls make is longer than what came in: it says more and counts as full. Else prove '..UptoSaid'. A law counts once. -/
mutual
def uptoBulk {H : Type} : DataW H → Nat
  | .lit (.string bytes) => bytes.length + 1
  | .lit _ => 1
  | .nil => 1
  | .ptr d => uptoBulk d + 1
  | .slice elems spare => uptoBulkAll elems + uptoBulkAll spare + 1
  | .agg parts => uptoBulkAll parts + 1
  | .iface _ d => uptoBulk d + 1
  | .map entries => uptoBulkEntries entries + 1
  | .held _ => 1
def uptoBulkAll {H : Type} : List (DataW H) → Nat
  | [] => 0
  | d :: r => uptoBulk d + uptoBulkAll r
def uptoBulkEntries {H : Type} : List (Lit × DataW H) → Nat
  | [] => 0
  | x :: r => uptoBulkEntry x + uptoBulkEntries r
def uptoBulkEntry {H : Type} : Lit × DataW H → Nat
  | (.string bytes, d) => bytes.length + uptoBulk d + 1
  | (_, d) => uptoBulk d + 1
 end
def uptoSmall : (H : Type) → List (DataW H) → Bool := fun _ ds => decide (uptoBulkAll ds ≤ 1048576)
def OpenSpec.upto (s : _root_.Go.ChangeSpec) : _root_.Go.OpenSpec := { _root_.Go.OpenSpec.ofChange s with cond := some uptoSmall }

/-- 'laws.FnConjugates', WHERE WHAT IT READS IS OF BULK AT MOST 1048576: true; the input reads as it did. -/
def fnConjugatesUptoRow : OpenClaim := { program := "ytjkddoiacifhpaa", sum := "0980c160628b8838a4acbbd11bf6a75ed5793c816ed52eaba554054b7ffa4ae6", func := "loop.example/g01108/laws.FnConjugates", spec := "fnConjugates", recurses := true, apart := false, narrowed := true }
def FnConjugatesUptoSaid : Prop := fnConjugatesUptoRow.holds Try.pinned (OpenSpec.upto fnConjugatesSpec)

/-- 'laws.FnOrbits', WHERE WHAT IT READS IS OF BULK AT MOST 1048576: true; the input reads as it did. -/
def fnOrbitsUptoRow : OpenClaim := { program := "ytjkddoiacifhpaa", sum := "0980c160628b8838a4acbbd11bf6a75ed5793c816ed52eaba554054b7ffa4ae6", func := "loop.example/g01108/laws.FnOrbits", spec := "fnOrbits", recurses := true, apart := false, narrowed := true }
def FnOrbitsUptoSaid : Prop := fnOrbitsUptoRow.holds Try.pinned (OpenSpec.upto fnOrbitsSpec)

/-- 'laws.FnGroups', WHERE WHAT IT READS IS OF BULK AT MOST 1048576: true; the input reads as it did. -/
def fnGroupsUptoRow : OpenClaim := { program := "ytjkddoiacifhpaa", sum := "0980c160628b8838a4acbbd11bf6a75ed5793c816ed52eaba554054b7ffa4ae6", func := "loop.example/g01108/laws.FnGroups", spec := "fnGroups", inPlace := ["internal/abi.NoEscape"], unfollowed := true, recurses := true, apart := false, narrowed := true }
def FnGroupsUptoSaid : Prop := fnGroupsUptoRow.holds Try.pinned (OpenSpec.upto fnGroupsSpec)

/-- 'laws.FnFaces', WHERE WHAT IT READS IS OF BULK AT MOST 1048576: true; the input reads as it did. -/
def fnFacesUptoRow : OpenClaim := { program := "ytjkddoiacifhpaa", sum := "0980c160628b8838a4acbbd11bf6a75ed5793c816ed52eaba554054b7ffa4ae6", func := "loop.example/g01108/laws.FnFaces", spec := "fnFaces", apart := false, narrowed := true }
def FnFacesUptoSaid : Prop := fnFacesUptoRow.holds Try.pinned (OpenSpec.upto fnFacesSpec)

/-- 'laws.FnRenumbered', WHERE WHAT IT READS IS OF BULK AT MOST 1048576: true; the input reads as it did. -/
def fnRenumberedUptoRow : OpenClaim := { program := "ytjkddoiacifhpaa", sum := "0980c160628b8838a4acbbd11bf6a75ed5793c816ed52eaba554054b7ffa4ae6", func := "loop.example/g01108/laws.FnRenumbered", spec := "fnRenumbered", unfollowed := true, recurses := true, apart := false, narrowed := true }
def FnRenumberedUptoSaid : Prop := fnRenumberedUptoRow.holds Try.pinned (OpenSpec.upto fnRenumberedSpec)

/-- 'laws.FnPaths', WHERE WHAT IT READS IS OF BULK AT MOST 1048576: true; the input reads as it did. -/
def fnPathsUptoRow : OpenClaim := { program := "ytjkddoiacifhpaa", sum := "0980c160628b8838a4acbbd11bf6a75ed5793c816ed52eaba554054b7ffa4ae6", func := "loop.example/g01108/laws.FnPaths", spec := "fnPaths", unfollowed := true, recurses := true, apart := false, narrowed := true }
def FnPathsUptoSaid : Prop := fnPathsUptoRow.holds Try.pinned (OpenSpec.upto fnPathsSpec)

/-- 'laws.FnColourings', WHERE WHAT IT READS IS OF BULK AT MOST 1048576: true; the input reads as it did. -/
def fnColouringsUptoRow : OpenClaim := { program := "ytjkddoiacifhpaa", sum := "0980c160628b8838a4acbbd11bf6a75ed5793c816ed52eaba554054b7ffa4ae6", func := "loop.example/g01108/laws.FnColourings", spec := "fnColourings", apart := false, narrowed := true }
def FnColouringsUptoSaid : Prop := fnColouringsUptoRow.holds Try.pinned (OpenSpec.upto fnColouringsSpec)

/-- 'laws.FnExactGroupElements', WHERE WHAT IT READS IS OF BULK AT MOST 1048576: true; the input reads as it did. -/
def fnExactGroupElementsUptoRow : OpenClaim := { program := "ytjkddoiacifhpaa", sum := "0980c160628b8838a4acbbd11bf6a75ed5793c816ed52eaba554054b7ffa4ae6", func := "loop.example/g01108/laws.FnExactGroupElements", spec := "fnExactGroupElements", inPlace := ["internal/abi.NoEscape"], unfollowed := true, recurses := true, apart := false, narrowed := true }
def FnExactGroupElementsUptoSaid : Prop := fnExactGroupElementsUptoRow.holds Try.pinned (OpenSpec.upto fnExactGroupElementsSpec)

/-- 'laws.FnExactIsManiplex', WHERE WHAT IT READS IS OF BULK AT MOST 1048576: true; the input reads as it did. -/
def fnExactIsManiplexUptoRow : OpenClaim := { program := "ytjkddoiacifhpaa", sum := "0980c160628b8838a4acbbd11bf6a75ed5793c816ed52eaba554054b7ffa4ae6", func := "loop.example/g01108/laws.FnExactIsManiplex", spec := "fnExactIsManiplex", apart := false, narrowed := true }
def FnExactIsManiplexUptoSaid : Prop := fnExactIsManiplexUptoRow.holds Try.pinned (OpenSpec.upto fnExactIsManiplexSpec)

/-- 'laws.FnExactFaceLabels', WHERE WHAT IT READS IS OF BULK AT MOST 1048576: true; the input reads as it did. -/
def fnExactFaceLabelsUptoRow : OpenClaim := { program := "ytjkddoiacifhpaa", sum := "0980c160628b8838a4acbbd11bf6a75ed5793c816ed52eaba554054b7ffa4ae6", func := "loop.example/g01108/laws.FnExactFaceLabels", spec := "fnExactFaceLabels", apart := false, narrowed := true }
def FnExactFaceLabelsUptoSaid : Prop := fnExactFaceLabelsUptoRow.holds Try.pinned (OpenSpec.upto fnExactFaceLabelsSpec)

/-- 'laws.FnExactFaceCounts', WHERE WHAT IT READS IS OF BULK AT MOST 1048576: true; the input reads as it did. -/
def fnExactFaceCountsUptoRow : OpenClaim := { program := "ytjkddoiacifhpaa", sum := "0980c160628b8838a4acbbd11bf6a75ed5793c816ed52eaba554054b7ffa4ae6", func := "loop.example/g01108/laws.FnExactFaceCounts", spec := "fnExactFaceCounts", apart := false, narrowed := true }
def FnExactFaceCountsUptoSaid : Prop := fnExactFaceCountsUptoRow.holds Try.pinned (OpenSpec.upto fnExactFaceCountsSpec)

/-- 'laws.FnExactEulerCharacteristic', WHERE WHAT IT READS IS OF BULK AT MOST 1048576: true; the input reads as it did. -/
def fnExactEulerCharacteristicUptoRow : OpenClaim := { program := "ytjkddoiacifhpaa", sum := "0980c160628b8838a4acbbd11bf6a75ed5793c816ed52eaba554054b7ffa4ae6", func := "loop.example/g01108/laws.FnExactEulerCharacteristic", spec := "fnExactEulerCharacteristic", apart := false, narrowed := true }
def FnExactEulerCharacteristicUptoSaid : Prop := fnExactEulerCharacteristicUptoRow.holds Try.pinned (OpenSpec.upto fnExactEulerCharacteristicSpec)

/-- 'laws.FnExactTypeOf', WHERE WHAT IT READS IS OF BULK AT MOST 1048576: true; the input reads as it did. -/
def fnExactTypeOfUptoRow : OpenClaim := { program := "ytjkddoiacifhpaa", sum := "0980c160628b8838a4acbbd11bf6a75ed5793c816ed52eaba554054b7ffa4ae6", func := "loop.example/g01108/laws.FnExactTypeOf", spec := "fnExactTypeOf", recurses := true, apart := false, narrowed := true }
def FnExactTypeOfUptoSaid : Prop := fnExactTypeOfUptoRow.holds Try.pinned (OpenSpec.upto fnExactTypeOfSpec)

/-- 'laws.FnExactIsOrientable', WHERE WHAT IT READS IS OF BULK AT MOST 1048576: true; the input reads as it did. -/
def fnExactIsOrientableUptoRow : OpenClaim := { program := "ytjkddoiacifhpaa", sum := "0980c160628b8838a4acbbd11bf6a75ed5793c816ed52eaba554054b7ffa4ae6", func := "loop.example/g01108/laws.FnExactIsOrientable", spec := "fnExactIsOrientable", apart := false, narrowed := true }
def FnExactIsOrientableUptoSaid : Prop := fnExactIsOrientableUptoRow.holds Try.pinned (OpenSpec.upto fnExactIsOrientableSpec)

/-- 'laws.FnExactColouringOf', WHERE WHAT IT READS IS OF BULK AT MOST 1048576: true; the input reads as it did. -/
def fnExactColouringOfUptoRow : OpenClaim := { program := "ytjkddoiacifhpaa", sum := "0980c160628b8838a4acbbd11bf6a75ed5793c816ed52eaba554054b7ffa4ae6", func := "loop.example/g01108/laws.FnExactColouringOf", spec := "fnExactColouringOf", apart := false, narrowed := true }
def FnExactColouringOfUptoSaid : Prop := fnExactColouringOfUptoRow.holds Try.pinned (OpenSpec.upto fnExactColouringOfSpec)

/-- 'laws.FnExactRunMoves', WHERE WHAT IT READS IS OF BULK AT MOST 1048576: true; the input reads as it did. -/
def fnExactRunMovesUptoRow : OpenClaim := { program := "ytjkddoiacifhpaa", sum := "0980c160628b8838a4acbbd11bf6a75ed5793c816ed52eaba554054b7ffa4ae6", func := "loop.example/g01108/laws.FnExactRunMoves", spec := "fnExactRunMoves", apart := false, narrowed := true }
def FnExactRunMovesUptoSaid : Prop := fnExactRunMovesUptoRow.holds Try.pinned (OpenSpec.upto fnExactRunMovesSpec)

/-- 'laws.FnExactFirstWord', WHERE WHAT IT READS IS OF BULK AT MOST 1048576: true; the input reads as it did. -/
def fnExactFirstWordUptoRow : OpenClaim := { program := "ytjkddoiacifhpaa", sum := "0980c160628b8838a4acbbd11bf6a75ed5793c816ed52eaba554054b7ffa4ae6", func := "loop.example/g01108/laws.FnExactFirstWord", spec := "fnExactFirstWord", unfollowed := true, recurses := true, apart := false, narrowed := true }
def FnExactFirstWordUptoSaid : Prop := fnExactFirstWordUptoRow.holds Try.pinned (OpenSpec.upto fnExactFirstWordSpec)

/-- 'laws.FnExactDistancesFrom', WHERE WHAT IT READS IS OF BULK AT MOST 1048576: true; the input reads as it did. -/
def fnExactDistancesFromUptoRow : OpenClaim := { program := "ytjkddoiacifhpaa", sum := "0980c160628b8838a4acbbd11bf6a75ed5793c816ed52eaba554054b7ffa4ae6", func := "loop.example/g01108/laws.FnExactDistancesFrom", spec := "fnExactDistancesFrom", apart := false, narrowed := true }
def FnExactDistancesFromUptoSaid : Prop := fnExactDistancesFromUptoRow.holds Try.pinned (OpenSpec.upto fnExactDistancesFromSpec)

/-- 'laws.FnExactDiameterOf', WHERE WHAT IT READS IS OF BULK AT MOST 1048576: true; the input reads as it did. -/
def fnExactDiameterOfUptoRow : OpenClaim := { program := "ytjkddoiacifhpaa", sum := "0980c160628b8838a4acbbd11bf6a75ed5793c816ed52eaba554054b7ffa4ae6", func := "loop.example/g01108/laws.FnExactDiameterOf", spec := "fnExactDiameterOf", apart := false, narrowed := true }
def FnExactDiameterOfUptoSaid : Prop := fnExactDiameterOfUptoRow.holds Try.pinned (OpenSpec.upto fnExactDiameterOfSpec)

/-- 'laws.FnExactFormFrom', WHERE WHAT IT READS IS OF BULK AT MOST 1048576: true; the input reads as it did. -/
def fnExactFormFromUptoRow : OpenClaim := { program := "ytjkddoiacifhpaa", sum := "0980c160628b8838a4acbbd11bf6a75ed5793c816ed52eaba554054b7ffa4ae6", func := "loop.example/g01108/laws.FnExactFormFrom", spec := "fnExactFormFrom", apart := false, narrowed := true }
def FnExactFormFromUptoSaid : Prop := fnExactFormFromUptoRow.holds Try.pinned (OpenSpec.upto fnExactFormFromSpec)

/-- 'laws.FnExactLeastForm', WHERE WHAT IT READS IS OF BULK AT MOST 1048576: true; the input reads as it did. -/
def fnExactLeastFormUptoRow : OpenClaim := { program := "ytjkddoiacifhpaa", sum := "0980c160628b8838a4acbbd11bf6a75ed5793c816ed52eaba554054b7ffa4ae6", func := "loop.example/g01108/laws.FnExactLeastForm", spec := "fnExactLeastForm", unfollowed := true, recurses := true, apart := false, narrowed := true }
def FnExactLeastFormUptoSaid : Prop := fnExactLeastFormUptoRow.holds Try.pinned (OpenSpec.upto fnExactLeastFormSpec)

/-- 'laws.FnExactRenumberFlags', WHERE WHAT IT READS IS OF BULK AT MOST 1048576: true; the input reads as it did. -/
def fnExactRenumberFlagsUptoRow : OpenClaim := { program := "ytjkddoiacifhpaa", sum := "0980c160628b8838a4acbbd11bf6a75ed5793c816ed52eaba554054b7ffa4ae6", func := "loop.example/g01108/laws.FnExactRenumberFlags", spec := "fnExactRenumberFlags", apart := false, narrowed := true }
def FnExactRenumberFlagsUptoSaid : Prop := fnExactRenumberFlagsUptoRow.holds Try.pinned (OpenSpec.upto fnExactRenumberFlagsSpec)

end Rows
end Go.Proofs.Ytjkddoiacifhpaa
