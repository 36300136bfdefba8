/-
  No cell of these rows narrows 'for every input' (looked for: loops, veiled, ifaces, maps, wideKeys, modest, calm, conditions, laid).
  DERIVED. THE GIVEN ROWS OF THIS SEAT. 22 by the template 'for every input the law returns true; each argument reads behind the call as it read before'; 0 by the template 'total and deterministic' (their statements: YtdhcklfpammhkaaTotals.lean).
  GIVEN WITH THE SEED: the statements are not yours to turn. If you find one false, say at which input.
  Laid BY PROGRAM, IN A SANDBOX (cutbox-rows.mjs): the forced cells as the released guide's own fill.sh prints them over the translation 521c270996c21651… (all of the seat's roots in one cut). By AI agents, Wed Nov 11 2026. No macro, syntax, notation, axiom, sorry.
-/
import Derived.Test.YtdhcklfpammhkaaChecked
import GoSem.Claim
import GoSem.ClaimJoined
import GoSem.ClaimMapViews
import Derived.JoinedTies
import Derived.KernelRfl
namespace Go.Proofs.Ytdhcklfpammhkaa
/- THE CELL 'sum', in the pinned program and in every row, IS THE sha256 OF THE DUMP (.gsa) THAT YtdhcklfpammhkaaProg.lean LOADS. Nothing in Lean hashes anything: it is a label: what it is worth is what the hold of that sum in a sandbox is worth. -/
noncomputable def Try.pinned : Pinned := { name := "ytdhcklfpammhkaa", sum := "521c270996c216519abbfbfcef8ac344b96b5bf50bc7671e280a742e78430724", checked := Try.checked }
namespace Rows
def none {H : Type} : Left H := { results := [], args := [] }

/-- 'laws.FnConjugates': WHATEVER THE INPUT: true; the input reads as it did. -/
def fnConjugatesSpec : ChangeSpec := { name := "fnConjugates", fn := fun _ => fun
  | [d] => { results := [.lit (.bool true)], args := [d] }
  | _ => none }
def fnConjugatesRow : OpenClaim := { program := "ytdhcklfpammhkaa", sum := "521c270996c216519abbfbfcef8ac344b96b5bf50bc7671e280a742e78430724", func := "loop.example/g01108/laws.FnConjugates", spec := "fnConjugates", recurses := true, plainKeys := false, apart := false }
def FnConjugatesSaid : Prop := fnConjugatesRow.holds Try.pinned (OpenSpec.ofChange fnConjugatesSpec)

/-- ITS FALSE NEIGHBOUR: 'it returns false'. Refute it at one input. -/
def fnConjugatesWrong : ChangeSpec := { name := "fnConjugates", fn := fun _ => fun
  | [d] => { results := [.lit (.bool false)], args := [d] }
  | _ => none }
def FnConjugatesWrongFalsely : Prop := fnConjugatesRow.holds Try.pinned (OpenSpec.ofChange fnConjugatesWrong)

/-- 'laws.FnOrbits': WHATEVER THE INPUT: true; the input reads as it did. -/
def fnOrbitsSpec : ChangeSpec := { name := "fnOrbits", fn := fun _ => fun
  | [d] => { results := [.lit (.bool true)], args := [d] }
  | _ => none }
def fnOrbitsRow : OpenClaim := { program := "ytdhcklfpammhkaa", sum := "521c270996c216519abbfbfcef8ac344b96b5bf50bc7671e280a742e78430724", func := "loop.example/g01108/laws.FnOrbits", spec := "fnOrbits", recurses := true, plainKeys := false, apart := false }
def FnOrbitsSaid : Prop := fnOrbitsRow.holds Try.pinned (OpenSpec.ofChange fnOrbitsSpec)

/-- ITS FALSE NEIGHBOUR: 'it returns false'. Refute it at one input. -/
def fnOrbitsWrong : ChangeSpec := { name := "fnOrbits", fn := fun _ => fun
  | [d] => { results := [.lit (.bool false)], args := [d] }
  | _ => none }
def FnOrbitsWrongFalsely : Prop := fnOrbitsRow.holds Try.pinned (OpenSpec.ofChange fnOrbitsWrong)

/-- 'laws.FnGroups': WHATEVER THE INPUT: true; the input reads as it did. -/
def fnGroupsSpec : ChangeSpec := { name := "fnGroups", fn := fun _ => fun
  | [d] => { results := [.lit (.bool true)], args := [d] }
  | _ => none }
def fnGroupsRow : OpenClaim := { program := "ytdhcklfpammhkaa", sum := "521c270996c216519abbfbfcef8ac344b96b5bf50bc7671e280a742e78430724", func := "loop.example/g01108/laws.FnGroups", spec := "fnGroups", inPlace := ["internal/abi.NoEscape"], unfollowed := true, recurses := true, plainKeys := false, apart := false }
def FnGroupsSaid : Prop := fnGroupsRow.holds Try.pinned (OpenSpec.ofChange fnGroupsSpec)

/-- ITS FALSE NEIGHBOUR: 'it returns false'. Refute it at one input. -/
def fnGroupsWrong : ChangeSpec := { name := "fnGroups", fn := fun _ => fun
  | [d] => { results := [.lit (.bool false)], args := [d] }
  | _ => none }
def FnGroupsWrongFalsely : Prop := fnGroupsRow.holds Try.pinned (OpenSpec.ofChange fnGroupsWrong)

/-- 'laws.FnFaces': WHATEVER THE INPUT: true; the input reads as it did. -/
def fnFacesSpec : ChangeSpec := { name := "fnFaces", fn := fun _ => fun
  | [d] => { results := [.lit (.bool true)], args := [d] }
  | _ => none }
def fnFacesRow : OpenClaim := { program := "ytdhcklfpammhkaa", sum := "521c270996c216519abbfbfcef8ac344b96b5bf50bc7671e280a742e78430724", func := "loop.example/g01108/laws.FnFaces", spec := "fnFaces", plainKeys := false, apart := false }
def FnFacesSaid : Prop := fnFacesRow.holds Try.pinned (OpenSpec.ofChange fnFacesSpec)

/-- ITS FALSE NEIGHBOUR: 'it returns false'. Refute it at one input. -/
def fnFacesWrong : ChangeSpec := { name := "fnFaces", fn := fun _ => fun
  | [d] => { results := [.lit (.bool false)], args := [d] }
  | _ => none }
def FnFacesWrongFalsely : Prop := fnFacesRow.holds Try.pinned (OpenSpec.ofChange fnFacesWrong)

/-- 'laws.FnRenumbered': WHATEVER THE INPUT: true; the input reads as it did. -/
def fnRenumberedSpec : ChangeSpec := { name := "fnRenumbered", fn := fun _ => fun
  | [d] => { results := [.lit (.bool true)], args := [d] }
  | _ => none }
def fnRenumberedRow : OpenClaim := { program := "ytdhcklfpammhkaa", sum := "521c270996c216519abbfbfcef8ac344b96b5bf50bc7671e280a742e78430724", func := "loop.example/g01108/laws.FnRenumbered", spec := "fnRenumbered", unfollowed := true, recurses := true, plainKeys := false, apart := false }
def FnRenumberedSaid : Prop := fnRenumberedRow.holds Try.pinned (OpenSpec.ofChange fnRenumberedSpec)

/-- ITS FALSE NEIGHBOUR: 'it returns false'. Refute it at one input. -/
def fnRenumberedWrong : ChangeSpec := { name := "fnRenumbered", fn := fun _ => fun
  | [d] => { results := [.lit (.bool false)], args := [d] }
  | _ => none }
def FnRenumberedWrongFalsely : Prop := fnRenumberedRow.holds Try.pinned (OpenSpec.ofChange fnRenumberedWrong)

/-- 'laws.FnPaths': WHATEVER THE INPUT: true; the input reads as it did. -/
def fnPathsSpec : ChangeSpec := { name := "fnPaths", fn := fun _ => fun
  | [d] => { results := [.lit (.bool true)], args := [d] }
  | _ => none }
def fnPathsRow : OpenClaim := { program := "ytdhcklfpammhkaa", sum := "521c270996c216519abbfbfcef8ac344b96b5bf50bc7671e280a742e78430724", func := "loop.example/g01108/laws.FnPaths", spec := "fnPaths", unfollowed := true, recurses := true, plainKeys := false, apart := false }
def FnPathsSaid : Prop := fnPathsRow.holds Try.pinned (OpenSpec.ofChange fnPathsSpec)

/-- ITS FALSE NEIGHBOUR: 'it returns false'. Refute it at one input. -/
def fnPathsWrong : ChangeSpec := { name := "fnPaths", fn := fun _ => fun
  | [d] => { results := [.lit (.bool false)], args := [d] }
  | _ => none }
def FnPathsWrongFalsely : Prop := fnPathsRow.holds Try.pinned (OpenSpec.ofChange fnPathsWrong)

/-- 'laws.FnColourings': WHATEVER THE INPUT: true; the input reads as it did. -/
def fnColouringsSpec : ChangeSpec := { name := "fnColourings", fn := fun _ => fun
  | [d] => { results := [.lit (.bool true)], args := [d] }
  | _ => none }
def fnColouringsRow : OpenClaim := { program := "ytdhcklfpammhkaa", sum := "521c270996c216519abbfbfcef8ac344b96b5bf50bc7671e280a742e78430724", func := "loop.example/g01108/laws.FnColourings", spec := "fnColourings", plainKeys := false, apart := false }
def FnColouringsSaid : Prop := fnColouringsRow.holds Try.pinned (OpenSpec.ofChange fnColouringsSpec)

/-- ITS FALSE NEIGHBOUR: 'it returns false'. Refute it at one input. -/
def fnColouringsWrong : ChangeSpec := { name := "fnColourings", fn := fun _ => fun
  | [d] => { results := [.lit (.bool false)], args := [d] }
  | _ => none }
def FnColouringsWrongFalsely : Prop := fnColouringsRow.holds Try.pinned (OpenSpec.ofChange fnColouringsWrong)

/-- 'laws.FnFacePosets': WHATEVER THE INPUT: true; the input reads as it did. -/
def fnFacePosetsSpec : ChangeSpec := { name := "fnFacePosets", fn := fun _ => fun
  | [d] => { results := [.lit (.bool true)], args := [d] }
  | _ => none }
def fnFacePosetsRow : OpenClaim := { program := "ytdhcklfpammhkaa", sum := "521c270996c216519abbfbfcef8ac344b96b5bf50bc7671e280a742e78430724", func := "loop.example/g01108/laws.FnFacePosets", spec := "fnFacePosets", recurses := true, plainKeys := false, apart := false }
def FnFacePosetsSaid : Prop := fnFacePosetsRow.holds Try.pinned (OpenSpec.ofChange fnFacePosetsSpec)

/-- ITS FALSE NEIGHBOUR: 'it returns false'. Refute it at one input. -/
def fnFacePosetsWrong : ChangeSpec := { name := "fnFacePosets", fn := fun _ => fun
  | [d] => { results := [.lit (.bool false)], args := [d] }
  | _ => none }
def FnFacePosetsWrongFalsely : Prop := fnFacePosetsRow.holds Try.pinned (OpenSpec.ofChange fnFacePosetsWrong)

/-- 'laws.FnOpposites': WHATEVER THE INPUT: true; the input reads as it did. -/
def fnOppositesSpec : ChangeSpec := { name := "fnOpposites", fn := fun _ => fun
  | [d] => { results := [.lit (.bool true)], args := [d] }
  | _ => none }
def fnOppositesRow : OpenClaim := { program := "ytdhcklfpammhkaa", sum := "521c270996c216519abbfbfcef8ac344b96b5bf50bc7671e280a742e78430724", func := "loop.example/g01108/laws.FnOpposites", spec := "fnOpposites", unfollowed := true, recurses := true, plainKeys := false, apart := false }
def FnOppositesSaid : Prop := fnOppositesRow.holds Try.pinned (OpenSpec.ofChange fnOppositesSpec)

/-- ITS FALSE NEIGHBOUR: 'it returns false'. Refute it at one input. -/
def fnOppositesWrong : ChangeSpec := { name := "fnOpposites", fn := fun _ => fun
  | [d] => { results := [.lit (.bool false)], args := [d] }
  | _ => none }
def FnOppositesWrongFalsely : Prop := fnOppositesRow.holds Try.pinned (OpenSpec.ofChange fnOppositesWrong)

/-- 'laws.FnExactGroupElements': WHATEVER THE INPUT: true; the input reads as it did. -/
def fnExactGroupElementsSpec : ChangeSpec := { name := "fnExactGroupElements", fn := fun _ => fun
  | [d1, d2] => { results := [.lit (.bool true)], args := [d1, d2] }
  | _ => none }
def fnExactGroupElementsRow : OpenClaim := { program := "ytdhcklfpammhkaa", sum := "521c270996c216519abbfbfcef8ac344b96b5bf50bc7671e280a742e78430724", func := "loop.example/g01108/laws.FnExactGroupElements", spec := "fnExactGroupElements", inPlace := ["internal/abi.NoEscape"], unfollowed := true, recurses := true, plainKeys := false, apart := false }
def FnExactGroupElementsSaid : Prop := fnExactGroupElementsRow.holds Try.pinned (OpenSpec.ofChange fnExactGroupElementsSpec)

/-- ITS FALSE NEIGHBOUR: 'it returns false'. Refute it at one input. -/
def fnExactGroupElementsWrong : ChangeSpec := { name := "fnExactGroupElements", fn := fun _ => fun
  | [d1, d2] => { results := [.lit (.bool false)], args := [d1, d2] }
  | _ => none }
def FnExactGroupElementsWrongFalsely : Prop := fnExactGroupElementsRow.holds Try.pinned (OpenSpec.ofChange fnExactGroupElementsWrong)

/-- 'laws.FnExactIsPoset': WHATEVER THE INPUT: true; the input reads as it did. -/
def fnExactIsPosetSpec : ChangeSpec := { name := "fnExactIsPoset", fn := fun _ => fun
  | [d] => { results := [.lit (.bool true)], args := [d] }
  | _ => none }
def fnExactIsPosetRow : OpenClaim := { program := "ytdhcklfpammhkaa", sum := "521c270996c216519abbfbfcef8ac344b96b5bf50bc7671e280a742e78430724", func := "loop.example/g01108/laws.FnExactIsPoset", spec := "fnExactIsPoset", plainKeys := false, apart := false }
def FnExactIsPosetSaid : Prop := fnExactIsPosetRow.holds Try.pinned (OpenSpec.ofChange fnExactIsPosetSpec)

/-- ITS FALSE NEIGHBOUR: 'it returns false'. Refute it at one input. -/
def fnExactIsPosetWrong : ChangeSpec := { name := "fnExactIsPoset", fn := fun _ => fun
  | [d] => { results := [.lit (.bool false)], args := [d] }
  | _ => none }
def FnExactIsPosetWrongFalsely : Prop := fnExactIsPosetRow.holds Try.pinned (OpenSpec.ofChange fnExactIsPosetWrong)

/-- 'laws.FnExactFacePoset': WHATEVER THE INPUT: true; the input reads as it did. -/
def fnExactFacePosetSpec : ChangeSpec := { name := "fnExactFacePoset", fn := fun _ => fun
  | [d] => { results := [.lit (.bool true)], args := [d] }
  | _ => none }
def fnExactFacePosetRow : OpenClaim := { program := "ytdhcklfpammhkaa", sum := "521c270996c216519abbfbfcef8ac344b96b5bf50bc7671e280a742e78430724", func := "loop.example/g01108/laws.FnExactFacePoset", spec := "fnExactFacePoset", recurses := true, plainKeys := false, apart := false }
def FnExactFacePosetSaid : Prop := fnExactFacePosetRow.holds Try.pinned (OpenSpec.ofChange fnExactFacePosetSpec)

/-- ITS FALSE NEIGHBOUR: 'it returns false'. Refute it at one input. -/
def fnExactFacePosetWrong : ChangeSpec := { name := "fnExactFacePoset", fn := fun _ => fun
  | [d] => { results := [.lit (.bool false)], args := [d] }
  | _ => none }
def FnExactFacePosetWrongFalsely : Prop := fnExactFacePosetRow.holds Try.pinned (OpenSpec.ofChange fnExactFacePosetWrong)

/-- 'laws.FnExactElementCounts': WHATEVER THE INPUT: true; the input reads as it did. -/
def fnExactElementCountsSpec : ChangeSpec := { name := "fnExactElementCounts", fn := fun _ => fun
  | [d] => { results := [.lit (.bool true)], args := [d] }
  | _ => none }
def fnExactElementCountsRow : OpenClaim := { program := "ytdhcklfpammhkaa", sum := "521c270996c216519abbfbfcef8ac344b96b5bf50bc7671e280a742e78430724", func := "loop.example/g01108/laws.FnExactElementCounts", spec := "fnExactElementCounts", plainKeys := false, apart := false }
def FnExactElementCountsSaid : Prop := fnExactElementCountsRow.holds Try.pinned (OpenSpec.ofChange fnExactElementCountsSpec)

/-- ITS FALSE NEIGHBOUR: 'it returns false'. Refute it at one input. -/
def fnExactElementCountsWrong : ChangeSpec := { name := "fnExactElementCounts", fn := fun _ => fun
  | [d] => { results := [.lit (.bool false)], args := [d] }
  | _ => none }
def FnExactElementCountsWrongFalsely : Prop := fnExactElementCountsRow.holds Try.pinned (OpenSpec.ofChange fnExactElementCountsWrong)

/-- 'laws.FnExactFlagsOf': WHATEVER THE INPUT: true; the input reads as it did. -/
def fnExactFlagsOfSpec : ChangeSpec := { name := "fnExactFlagsOf", fn := fun _ => fun
  | [d] => { results := [.lit (.bool true)], args := [d] }
  | _ => none }
def fnExactFlagsOfRow : OpenClaim := { program := "ytdhcklfpammhkaa", sum := "521c270996c216519abbfbfcef8ac344b96b5bf50bc7671e280a742e78430724", func := "loop.example/g01108/laws.FnExactFlagsOf", spec := "fnExactFlagsOf", unfollowed := true, recurses := true, plainKeys := false, apart := false }
def FnExactFlagsOfSaid : Prop := fnExactFlagsOfRow.holds Try.pinned (OpenSpec.ofChange fnExactFlagsOfSpec)

/-- ITS FALSE NEIGHBOUR: 'it returns false'. Refute it at one input. -/
def fnExactFlagsOfWrong : ChangeSpec := { name := "fnExactFlagsOf", fn := fun _ => fun
  | [d] => { results := [.lit (.bool false)], args := [d] }
  | _ => none }
def FnExactFlagsOfWrongFalsely : Prop := fnExactFlagsOfRow.holds Try.pinned (OpenSpec.ofChange fnExactFlagsOfWrong)

/-- 'laws.FnExactDiamondFault': WHATEVER THE INPUT: true; the input reads as it did. -/
def fnExactDiamondFaultSpec : ChangeSpec := { name := "fnExactDiamondFault", fn := fun _ => fun
  | [d] => { results := [.lit (.bool true)], args := [d] }
  | _ => none }
def fnExactDiamondFaultRow : OpenClaim := { program := "ytdhcklfpammhkaa", sum := "521c270996c216519abbfbfcef8ac344b96b5bf50bc7671e280a742e78430724", func := "loop.example/g01108/laws.FnExactDiamondFault", spec := "fnExactDiamondFault", unfollowed := true, recurses := true, plainKeys := false, apart := false }
def FnExactDiamondFaultSaid : Prop := fnExactDiamondFaultRow.holds Try.pinned (OpenSpec.ofChange fnExactDiamondFaultSpec)

/-- ITS FALSE NEIGHBOUR: 'it returns false'. Refute it at one input. -/
def fnExactDiamondFaultWrong : ChangeSpec := { name := "fnExactDiamondFault", fn := fun _ => fun
  | [d] => { results := [.lit (.bool false)], args := [d] }
  | _ => none }
def FnExactDiamondFaultWrongFalsely : Prop := fnExactDiamondFaultRow.holds Try.pinned (OpenSpec.ofChange fnExactDiamondFaultWrong)

/-- 'laws.FnExactIsPure': WHATEVER THE INPUT: true; the input reads as it did. -/
def fnExactIsPureSpec : ChangeSpec := { name := "fnExactIsPure", fn := fun _ => fun
  | [d] => { results := [.lit (.bool true)], args := [d] }
  | _ => none }
def fnExactIsPureRow : OpenClaim := { program := "ytdhcklfpammhkaa", sum := "521c270996c216519abbfbfcef8ac344b96b5bf50bc7671e280a742e78430724", func := "loop.example/g01108/laws.FnExactIsPure", spec := "fnExactIsPure", unfollowed := true, recurses := true, plainKeys := false, apart := false }
def FnExactIsPureSaid : Prop := fnExactIsPureRow.holds Try.pinned (OpenSpec.ofChange fnExactIsPureSpec)

/-- ITS FALSE NEIGHBOUR: 'it returns false'. Refute it at one input. -/
def fnExactIsPureWrong : ChangeSpec := { name := "fnExactIsPure", fn := fun _ => fun
  | [d] => { results := [.lit (.bool false)], args := [d] }
  | _ => none }
def FnExactIsPureWrongFalsely : Prop := fnExactIsPureRow.holds Try.pinned (OpenSpec.ofChange fnExactIsPureWrong)

/-- 'laws.FnExactConnectionFault': WHATEVER THE INPUT: true; the input reads as it did. -/
def fnExactConnectionFaultSpec : ChangeSpec := { name := "fnExactConnectionFault", fn := fun _ => fun
  | [d] => { results := [.lit (.bool true)], args := [d] }
  | _ => none }
def fnExactConnectionFaultRow : OpenClaim := { program := "ytdhcklfpammhkaa", sum := "521c270996c216519abbfbfcef8ac344b96b5bf50bc7671e280a742e78430724", func := "loop.example/g01108/laws.FnExactConnectionFault", spec := "fnExactConnectionFault", unfollowed := true, recurses := true, plainKeys := false, apart := false }
def FnExactConnectionFaultSaid : Prop := fnExactConnectionFaultRow.holds Try.pinned (OpenSpec.ofChange fnExactConnectionFaultSpec)

/-- ITS FALSE NEIGHBOUR: 'it returns false'. Refute it at one input. -/
def fnExactConnectionFaultWrong : ChangeSpec := { name := "fnExactConnectionFault", fn := fun _ => fun
  | [d] => { results := [.lit (.bool false)], args := [d] }
  | _ => none }
def FnExactConnectionFaultWrongFalsely : Prop := fnExactConnectionFaultRow.holds Try.pinned (OpenSpec.ofChange fnExactConnectionFaultWrong)

/-- 'laws.FnExactIsPolytope': WHATEVER THE INPUT: true; the input reads as it did. -/
def fnExactIsPolytopeSpec : ChangeSpec := { name := "fnExactIsPolytope", fn := fun _ => fun
  | [d] => { results := [.lit (.bool true)], args := [d] }
  | _ => none }
def fnExactIsPolytopeRow : OpenClaim := { program := "ytdhcklfpammhkaa", sum := "521c270996c216519abbfbfcef8ac344b96b5bf50bc7671e280a742e78430724", func := "loop.example/g01108/laws.FnExactIsPolytope", spec := "fnExactIsPolytope", unfollowed := true, recurses := true, plainKeys := false, apart := false }
def FnExactIsPolytopeSaid : Prop := fnExactIsPolytopeRow.holds Try.pinned (OpenSpec.ofChange fnExactIsPolytopeSpec)

/-- ITS FALSE NEIGHBOUR: 'it returns false'. Refute it at one input. -/
def fnExactIsPolytopeWrong : ChangeSpec := { name := "fnExactIsPolytope", fn := fun _ => fun
  | [d] => { results := [.lit (.bool false)], args := [d] }
  | _ => none }
def FnExactIsPolytopeWrongFalsely : Prop := fnExactIsPolytopeRow.holds Try.pinned (OpenSpec.ofChange fnExactIsPolytopeWrong)

/-- 'laws.FnExactManiplexOf': WHATEVER THE INPUT: true; the input reads as it did. -/
def fnExactManiplexOfSpec : ChangeSpec := { name := "fnExactManiplexOf", fn := fun _ => fun
  | [d] => { results := [.lit (.bool true)], args := [d] }
  | _ => none }
def fnExactManiplexOfRow : OpenClaim := { program := "ytdhcklfpammhkaa", sum := "521c270996c216519abbfbfcef8ac344b96b5bf50bc7671e280a742e78430724", func := "loop.example/g01108/laws.FnExactManiplexOf", spec := "fnExactManiplexOf", unfollowed := true, recurses := true, plainKeys := false, apart := false }
def FnExactManiplexOfSaid : Prop := fnExactManiplexOfRow.holds Try.pinned (OpenSpec.ofChange fnExactManiplexOfSpec)

/-- ITS FALSE NEIGHBOUR: 'it returns false'. Refute it at one input. -/
def fnExactManiplexOfWrong : ChangeSpec := { name := "fnExactManiplexOf", fn := fun _ => fun
  | [d] => { results := [.lit (.bool false)], args := [d] }
  | _ => none }
def FnExactManiplexOfWrongFalsely : Prop := fnExactManiplexOfRow.holds Try.pinned (OpenSpec.ofChange fnExactManiplexOfWrong)

/-- 'laws.FnExactTwinFlags': WHATEVER THE INPUT: true; the input reads as it did. -/
def fnExactTwinFlagsSpec : ChangeSpec := { name := "fnExactTwinFlags", fn := fun _ => fun
  | [d] => { results := [.lit (.bool true)], args := [d] }
  | _ => none }
def fnExactTwinFlagsRow : OpenClaim := { program := "ytdhcklfpammhkaa", sum := "521c270996c216519abbfbfcef8ac344b96b5bf50bc7671e280a742e78430724", func := "loop.example/g01108/laws.FnExactTwinFlags", spec := "fnExactTwinFlags", plainKeys := false, apart := false }
def FnExactTwinFlagsSaid : Prop := fnExactTwinFlagsRow.holds Try.pinned (OpenSpec.ofChange fnExactTwinFlagsSpec)

/-- ITS FALSE NEIGHBOUR: 'it returns false'. Refute it at one input. -/
def fnExactTwinFlagsWrong : ChangeSpec := { name := "fnExactTwinFlags", fn := fun _ => fun
  | [d] => { results := [.lit (.bool false)], args := [d] }
  | _ => none }
def FnExactTwinFlagsWrongFalsely : Prop := fnExactTwinFlagsRow.holds Try.pinned (OpenSpec.ofChange fnExactTwinFlagsWrong)

/-- 'laws.FnExactOppositePoset': WHATEVER THE INPUT: true; the input reads as it did. -/
def fnExactOppositePosetSpec : ChangeSpec := { name := "fnExactOppositePoset", fn := fun _ => fun
  | [d] => { results := [.lit (.bool true)], args := [d] }
  | _ => none }
def fnExactOppositePosetRow : OpenClaim := { program := "ytdhcklfpammhkaa", sum := "521c270996c216519abbfbfcef8ac344b96b5bf50bc7671e280a742e78430724", func := "loop.example/g01108/laws.FnExactOppositePoset", spec := "fnExactOppositePoset", plainKeys := false, apart := false }
def FnExactOppositePosetSaid : Prop := fnExactOppositePosetRow.holds Try.pinned (OpenSpec.ofChange fnExactOppositePosetSpec)

/-- ITS FALSE NEIGHBOUR: 'it returns false'. Refute it at one input. -/
def fnExactOppositePosetWrong : ChangeSpec := { name := "fnExactOppositePoset", fn := fun _ => fun
  | [d] => { results := [.lit (.bool false)], args := [d] }
  | _ => none }
def FnExactOppositePosetWrongFalsely : Prop := fnExactOppositePosetRow.holds Try.pinned (OpenSpec.ofChange fnExactOppositePosetWrong)

/-- 'laws.FnExactIsLattice': WHATEVER THE INPUT: true; the input reads as it did. -/
def fnExactIsLatticeSpec : ChangeSpec := { name := "fnExactIsLattice", fn := fun _ => fun
  | [d] => { results := [.lit (.bool true)], args := [d] }
  | _ => none }
def fnExactIsLatticeRow : OpenClaim := { program := "ytdhcklfpammhkaa", sum := "521c270996c216519abbfbfcef8ac344b96b5bf50bc7671e280a742e78430724", func := "loop.example/g01108/laws.FnExactIsLattice", spec := "fnExactIsLattice", plainKeys := false, apart := false }
def FnExactIsLatticeSaid : Prop := fnExactIsLatticeRow.holds Try.pinned (OpenSpec.ofChange fnExactIsLatticeSpec)

/-- ITS FALSE NEIGHBOUR: 'it returns false'. Refute it at one input. -/
def fnExactIsLatticeWrong : ChangeSpec := { name := "fnExactIsLattice", fn := fun _ => fun
  | [d] => { results := [.lit (.bool false)], args := [d] }
  | _ => none }
def FnExactIsLatticeWrongFalsely : Prop := fnExactIsLatticeRow.holds Try.pinned (OpenSpec.ofChange fnExactIsLatticeWrong)

/- THE SECOND FORM. 'bulk': how many values and letters a reading holds, each counted each time it is reached (what is shared counts as often as it is met; a slice's spare places count too). A statement '..UptoSaid' is the law's where the arguments, and the package variables that the reading takes, are together of bulk at most 1048576: NARROWER than '..Said'. Prove '..Said' where nothing that the law and all that it calls make is longer than what came in: it says more and counts as full. Else prove '..UptoSaid'. A law counts once. -/
mutual
def uptoBulk {H : Type} : DataW H → Nat
  | .lit (.string bytes) => bytes.length + 1
  | .lit _ => 1
  | .nil => 1
  | .ptr d => uptoBulk d + 1
  | .slice elems spare => uptoBulkAll elems + uptoBulkAll spare + 1
  | .agg parts => uptoBulkAll parts + 1
  | .iface _ d => uptoBulk d + 1
  | .map entries => uptoBulkEntries entries + 1
  | .held _ => 1
def uptoBulkAll {H : Type} : List (DataW H) → Nat
  | [] => 0
  | d :: r => uptoBulk d + uptoBulkAll r
def uptoBulkEntries {H : Type} : List (Lit × DataW H) → Nat
  | [] => 0
  | x :: r => uptoBulkEntry x + uptoBulkEntries r
def uptoBulkEntry {H : Type} : Lit × DataW H → Nat
  | (.string bytes, d) => bytes.length + uptoBulk d + 1
  | (_, d) => uptoBulk d + 1
 end
def uptoSmall : (H : Type) → List (DataW H) → Bool := fun _ ds => decide (uptoBulkAll ds ≤ 1048576)
def OpenSpec.upto (s : _root_.Go.ChangeSpec) : _root_.Go.OpenSpec := { _root_.Go.OpenSpec.ofChange s with cond := some uptoSmall }

/-- 'laws.FnConjugates', WHERE WHAT IT READS IS OF BULK AT MOST 1048576: true; the input reads as it did. -/
def fnConjugatesUptoRow : OpenClaim := { program := "ytdhcklfpammhkaa", sum := "521c270996c216519abbfbfcef8ac344b96b5bf50bc7671e280a742e78430724", func := "loop.example/g01108/laws.FnConjugates", spec := "fnConjugates", recurses := true, plainKeys := false, apart := false, narrowed := true }
def FnConjugatesUptoSaid : Prop := fnConjugatesUptoRow.holds Try.pinned (OpenSpec.upto fnConjugatesSpec)

/-- 'laws.FnOrbits', WHERE WHAT IT READS IS OF BULK AT MOST 1048576: true; the input reads as it did. -/
def fnOrbitsUptoRow : OpenClaim := { program := "ytdhcklfpammhkaa", sum := "521c270996c216519abbfbfcef8ac344b96b5bf50bc7671e280a742e78430724", func := "loop.example/g01108/laws.FnOrbits", spec := "fnOrbits", recurses := true, plainKeys := false, apart := false, narrowed := true }
def FnOrbitsUptoSaid : Prop := fnOrbitsUptoRow.holds Try.pinned (OpenSpec.upto fnOrbitsSpec)

/-- 'laws.FnGroups', WHERE WHAT IT READS IS OF BULK AT MOST 1048576: true; the input reads as it did. -/
def fnGroupsUptoRow : OpenClaim := { program := "ytdhcklfpammhkaa", sum := "521c270996c216519abbfbfcef8ac344b96b5bf50bc7671e280a742e78430724", func := "loop.example/g01108/laws.FnGroups", spec := "fnGroups", inPlace := ["internal/abi.NoEscape"], unfollowed := true, recurses := true, plainKeys := false, apart := false, narrowed := true }
def FnGroupsUptoSaid : Prop := fnGroupsUptoRow.holds Try.pinned (OpenSpec.upto fnGroupsSpec)

/-- 'laws.FnFaces', WHERE WHAT IT READS IS OF BULK AT MOST 1048576: true; the input reads as it did. -/
def fnFacesUptoRow : OpenClaim := { program := "ytdhcklfpammhkaa", sum := "521c270996c216519abbfbfcef8ac344b96b5bf50bc7671e280a742e78430724", func := "loop.example/g01108/laws.FnFaces", spec := "fnFaces", plainKeys := false, apart := false, narrowed := true }
def FnFacesUptoSaid : Prop := fnFacesUptoRow.holds Try.pinned (OpenSpec.upto fnFacesSpec)

/-- 'laws.FnRenumbered', WHERE WHAT IT READS IS OF BULK AT MOST 1048576: true; the input reads as it did. -/
def fnRenumberedUptoRow : OpenClaim := { program := "ytdhcklfpammhkaa", sum := "521c270996c216519abbfbfcef8ac344b96b5bf50bc7671e280a742e78430724", func := "loop.example/g01108/laws.FnRenumbered", spec := "fnRenumbered", unfollowed := true, recurses := true, plainKeys := false, apart := false, narrowed := true }
def FnRenumberedUptoSaid : Prop := fnRenumberedUptoRow.holds Try.pinned (OpenSpec.upto fnRenumberedSpec)

/-- 'laws.FnPaths', WHERE WHAT IT READS IS OF BULK AT MOST 1048576: true; the input reads as it did. -/
def fnPathsUptoRow : OpenClaim := { program := "ytdhcklfpammhkaa", sum := "521c270996c216519abbfbfcef8ac344b96b5bf50bc7671e280a742e78430724", func := "loop.example/g01108/laws.FnPaths", spec := "fnPaths", unfollowed := true, recurses := true, plainKeys := false, apart := false, narrowed := true }
def FnPathsUptoSaid : Prop := fnPathsUptoRow.holds Try.pinned (OpenSpec.upto fnPathsSpec)

/-- 'laws.FnColourings', WHERE WHAT IT READS IS OF BULK AT MOST 1048576: true; the input reads as it did. -/
def fnColouringsUptoRow : OpenClaim := { program := "ytdhcklfpammhkaa", sum := "521c270996c216519abbfbfcef8ac344b96b5bf50bc7671e280a742e78430724", func := "loop.example/g01108/laws.FnColourings", spec := "fnColourings", plainKeys := false, apart := false, narrowed := true }
def FnColouringsUptoSaid : Prop := fnColouringsUptoRow.holds Try.pinned (OpenSpec.upto fnColouringsSpec)

/-- 'laws.FnFacePosets', WHERE WHAT IT READS IS OF BULK AT MOST 1048576: true; the input reads as it did. -/
def fnFacePosetsUptoRow : OpenClaim := { program := "ytdhcklfpammhkaa", sum := "521c270996c216519abbfbfcef8ac344b96b5bf50bc7671e280a742e78430724", func := "loop.example/g01108/laws.FnFacePosets", spec := "fnFacePosets", recurses := true, plainKeys := false, apart := false, narrowed := true }
def FnFacePosetsUptoSaid : Prop := fnFacePosetsUptoRow.holds Try.pinned (OpenSpec.upto fnFacePosetsSpec)

/-- 'laws.FnOpposites', WHERE WHAT IT READS IS OF BULK AT MOST 1048576: true; the input reads as it did. -/
def fnOppositesUptoRow : OpenClaim := { program := "ytdhcklfpammhkaa", sum := "521c270996c216519abbfbfcef8ac344b96b5bf50bc7671e280a742e78430724", func := "loop.example/g01108/laws.FnOpposites", spec := "fnOpposites", unfollowed := true, recurses := true, plainKeys := false, apart := false, narrowed := true }
def FnOppositesUptoSaid : Prop := fnOppositesUptoRow.holds Try.pinned (OpenSpec.upto fnOppositesSpec)

/-- 'laws.FnExactGroupElements', WHERE WHAT IT READS IS OF BULK AT MOST 1048576: true; the input reads as it did. -/
def fnExactGroupElementsUptoRow : OpenClaim := { program := "ytdhcklfpammhkaa", sum := "521c270996c216519abbfbfcef8ac344b96b5bf50bc7671e280a742e78430724", func := "loop.example/g01108/laws.FnExactGroupElements", spec := "fnExactGroupElements", inPlace := ["internal/abi.NoEscape"], unfollowed := true, recurses := true, plainKeys := false, apart := false, narrowed := true }
def FnExactGroupElementsUptoSaid : Prop := fnExactGroupElementsUptoRow.holds Try.pinned (OpenSpec.upto fnExactGroupElementsSpec)

/-- 'laws.FnExactIsPoset', WHERE WHAT IT READS IS OF BULK AT MOST 1048576: true; the input reads as it did. -/
def fnExactIsPosetUptoRow : OpenClaim := { program := "ytdhcklfpammhkaa", sum := "521c270996c216519abbfbfcef8ac344b96b5bf50bc7671e280a742e78430724", func := "loop.example/g01108/laws.FnExactIsPoset", spec := "fnExactIsPoset", plainKeys := false, apart := false, narrowed := true }
def FnExactIsPosetUptoSaid : Prop := fnExactIsPosetUptoRow.holds Try.pinned (OpenSpec.upto fnExactIsPosetSpec)

/-- 'laws.FnExactFacePoset', WHERE WHAT IT READS IS OF BULK AT MOST 1048576: true; the input reads as it did. -/
def fnExactFacePosetUptoRow : OpenClaim := { program := "ytdhcklfpammhkaa", sum := "521c270996c216519abbfbfcef8ac344b96b5bf50bc7671e280a742e78430724", func := "loop.example/g01108/laws.FnExactFacePoset", spec := "fnExactFacePoset", recurses := true, plainKeys := false, apart := false, narrowed := true }
def FnExactFacePosetUptoSaid : Prop := fnExactFacePosetUptoRow.holds Try.pinned (OpenSpec.upto fnExactFacePosetSpec)

/-- 'laws.FnExactElementCounts', WHERE WHAT IT READS IS OF BULK AT MOST 1048576: true; the input reads as it did. -/
def fnExactElementCountsUptoRow : OpenClaim := { program := "ytdhcklfpammhkaa", sum := "521c270996c216519abbfbfcef8ac344b96b5bf50bc7671e280a742e78430724", func := "loop.example/g01108/laws.FnExactElementCounts", spec := "fnExactElementCounts", plainKeys := false, apart := false, narrowed := true }
def FnExactElementCountsUptoSaid : Prop := fnExactElementCountsUptoRow.holds Try.pinned (OpenSpec.upto fnExactElementCountsSpec)

/-- 'laws.FnExactFlagsOf', WHERE WHAT IT READS IS OF BULK AT MOST 1048576: true; the input reads as it did. -/
def fnExactFlagsOfUptoRow : OpenClaim := { program := "ytdhcklfpammhkaa", sum := "521c270996c216519abbfbfcef8ac344b96b5bf50bc7671e280a742e78430724", func := "loop.example/g01108/laws.FnExactFlagsOf", spec := "fnExactFlagsOf", unfollowed := true, recurses := true, plainKeys := false, apart := false, narrowed := true }
def FnExactFlagsOfUptoSaid : Prop := fnExactFlagsOfUptoRow.holds Try.pinned (OpenSpec.upto fnExactFlagsOfSpec)

/-- 'laws.FnExactDiamondFault', WHERE WHAT IT READS IS OF BULK AT MOST 1048576: true; the input reads as it did. -/
def fnExactDiamondFaultUptoRow : OpenClaim := { program := "ytdhcklfpammhkaa", sum := "521c270996c216519abbfbfcef8ac344b96b5bf50bc7671e280a742e78430724", func := "loop.example/g01108/laws.FnExactDiamondFault", spec := "fnExactDiamondFault", unfollowed := true, recurses := true, plainKeys := false, apart := false, narrowed := true }
def FnExactDiamondFaultUptoSaid : Prop := fnExactDiamondFaultUptoRow.holds Try.pinned (OpenSpec.upto fnExactDiamondFaultSpec)

/-- 'laws.FnExactIsPure', WHERE WHAT IT READS IS OF BULK AT MOST 1048576: true; the input reads as it did. -/
def fnExactIsPureUptoRow : OpenClaim := { program := "ytdhcklfpammhkaa", sum := "521c270996c216519abbfbfcef8ac344b96b5bf50bc7671e280a742e78430724", func := "loop.example/g01108/laws.FnExactIsPure", spec := "fnExactIsPure", unfollowed := true, recurses := true, plainKeys := false, apart := false, narrowed := true }
def FnExactIsPureUptoSaid : Prop := fnExactIsPureUptoRow.holds Try.pinned (OpenSpec.upto fnExactIsPureSpec)

/-- 'laws.FnExactConnectionFault', WHERE WHAT IT READS IS OF BULK AT MOST 1048576: true; the input reads as it did. -/
def fnExactConnectionFaultUptoRow : OpenClaim := { program := "ytdhcklfpammhkaa", sum := "521c270996c216519abbfbfcef8ac344b96b5bf50bc7671e280a742e78430724", func := "loop.example/g01108/laws.FnExactConnectionFault", spec := "fnExactConnectionFault", unfollowed := true, recurses := true, plainKeys := false, apart := false, narrowed := true }
def FnExactConnectionFaultUptoSaid : Prop := fnExactConnectionFaultUptoRow.holds Try.pinned (OpenSpec.upto fnExactConnectionFaultSpec)

/-- 'laws.FnExactIsPolytope', WHERE WHAT IT READS IS OF BULK AT MOST 1048576: true; the input reads as it did. -/
def fnExactIsPolytopeUptoRow : OpenClaim := { program := "ytdhcklfpammhkaa", sum := "521c270996c216519abbfbfcef8ac344b96b5bf50bc7671e280a742e78430724", func := "loop.example/g01108/laws.FnExactIsPolytope", spec := "fnExactIsPolytope", unfollowed := true, recurses := true, plainKeys := false, apart := false, narrowed := true }
def FnExactIsPolytopeUptoSaid : Prop := fnExactIsPolytopeUptoRow.holds Try.pinned (OpenSpec.upto fnExactIsPolytopeSpec)

/-- 'laws.FnExactManiplexOf', WHERE WHAT IT READS IS OF BULK AT MOST 1048576: true; the input reads as it did. -/
def fnExactManiplexOfUptoRow : OpenClaim := { program := "ytdhcklfpammhkaa", sum := "521c270996c216519abbfbfcef8ac344b96b5bf50bc7671e280a742e78430724", func := "loop.example/g01108/laws.FnExactManiplexOf", spec := "fnExactManiplexOf", unfollowed := true, recurses := true, plainKeys := false, apart := false, narrowed := true }
def FnExactManiplexOfUptoSaid : Prop := fnExactManiplexOfUptoRow.holds Try.pinned (OpenSpec.upto fnExactManiplexOfSpec)

/-- 'laws.FnExactTwinFlags', WHERE WHAT IT READS IS OF BULK AT MOST 1048576: true; the input reads as it did. -/
def fnExactTwinFlagsUptoRow : OpenClaim := { program := "ytdhcklfpammhkaa", sum := "521c270996c216519abbfbfcef8ac344b96b5bf50bc7671e280a742e78430724", func := "loop.example/g01108/laws.FnExactTwinFlags", spec := "fnExactTwinFlags", plainKeys := false, apart := false, narrowed := true }
def FnExactTwinFlagsUptoSaid : Prop := fnExactTwinFlagsUptoRow.holds Try.pinned (OpenSpec.upto fnExactTwinFlagsSpec)

/-- 'laws.FnExactOppositePoset', WHERE WHAT IT READS IS OF BULK AT MOST 1048576: true; the input reads as it did. -/
def fnExactOppositePosetUptoRow : OpenClaim := { program := "ytdhcklfpammhkaa", sum := "521c270996c216519abbfbfcef8ac344b96b5bf50bc7671e280a742e78430724", func := "loop.example/g01108/laws.FnExactOppositePoset", spec := "fnExactOppositePoset", plainKeys := false, apart := false, narrowed := true }
def FnExactOppositePosetUptoSaid : Prop := fnExactOppositePosetUptoRow.holds Try.pinned (OpenSpec.upto fnExactOppositePosetSpec)

/-- 'laws.FnExactIsLattice', WHERE WHAT IT READS IS OF BULK AT MOST 1048576: true; the input reads as it did. -/
def fnExactIsLatticeUptoRow : OpenClaim := { program := "ytdhcklfpammhkaa", sum := "521c270996c216519abbfbfcef8ac344b96b5bf50bc7671e280a742e78430724", func := "loop.example/g01108/laws.FnExactIsLattice", spec := "fnExactIsLattice", plainKeys := false, apart := false, narrowed := true }
def FnExactIsLatticeUptoSaid : Prop := fnExactIsLatticeUptoRow.holds Try.pinned (OpenSpec.upto fnExactIsLatticeSpec)

end Rows
end Go.Proofs.Ytdhcklfpammhkaa
