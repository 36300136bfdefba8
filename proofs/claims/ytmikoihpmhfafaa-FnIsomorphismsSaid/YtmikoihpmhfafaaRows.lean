/-
  No cell of these rows narrows 'for every input' (looked for: loops, veiled, ifaces, maps, wideKeys, modest, calm, conditions, laid).
  DERIVED. THE GIVEN ROWS OF THIS SEAT. 19 by the template 'for every input the law returns true; each argument reads behind the call as it read before'; 0 by the template 'total and deterministic' (their statements: YtmikoihpmhfafaaTotals.lean).
  GIVEN WITH THE SEED: the statements are not yours to turn. If you find one false, say at which input.
  Laid BY PROGRAM, IN A SANDBOX (cutbox-rows.mjs): the forced cells as the released guide's own fill.sh prints them over the translation d67e2ea665213860… (all of the seat's roots in one cut). By AI agents, Wed Nov 11 2026. No macro, syntax, notation, axiom, sorry.
-/
import Derived.Test.YtmikoihpmhfafaaChecked
import GoSem.Claim
import GoSem.ClaimJoined
import GoSem.ClaimMapViews
import Derived.JoinedTies
import Derived.KernelRfl
namespace Go.Proofs.Ytmikoihpmhfafaa
/- THE CELL 'sum', in the pinned program and in every row, IS THE sha256 OF THE DUMP (.gsa) THAT YtmikoihpmhfafaaProg.lean LOADS. Nothing in Lean hashes anything: it is a label: what it is worth is what the hold of that sum in a sandbox is worth. -/
noncomputable def Try.pinned : Pinned := { name := "ytmikoihpmhfafaa", sum := "d67e2ea665213860b95b06949086e30420af91208a0e7bd1c9d0a2b08cb34cd0", checked := Try.checked }
namespace Rows
def none {H : Type} : Left H := { results := [], args := [] }

/-- 'laws.FnExtensions': WHATEVER THE INPUT: true; the input reads as it did. -/
def fnExtensionsSpec : ChangeSpec := { name := "fnExtensions", fn := fun _ => fun
  | [d] => { results := [.lit (.bool true)], args := [d] }
  | _ => none }
def fnExtensionsRow : OpenClaim := { program := "ytmikoihpmhfafaa", sum := "d67e2ea665213860b95b06949086e30420af91208a0e7bd1c9d0a2b08cb34cd0", func := "loop.example/g01108/laws.FnExtensions", spec := "fnExtensions", inPlace := ["slices.overlaps[[]int64]"], unfollowed := true, recurses := true, plainKeys := false, apart := false }
def FnExtensionsSaid : Prop := fnExtensionsRow.holds Try.pinned (OpenSpec.ofChange fnExtensionsSpec)

/-- ITS FALSE NEIGHBOUR: 'it returns false'. Refute it at one input. -/
def fnExtensionsWrong : ChangeSpec := { name := "fnExtensions", fn := fun _ => fun
  | [d] => { results := [.lit (.bool false)], args := [d] }
  | _ => none }
def FnExtensionsWrongFalsely : Prop := fnExtensionsRow.holds Try.pinned (OpenSpec.ofChange fnExtensionsWrong)

/-- 'laws.FnReplacedMoves': WHATEVER THE INPUT: true; the input reads as it did. -/
def fnReplacedMovesSpec : ChangeSpec := { name := "fnReplacedMoves", fn := fun _ => fun
  | [d] => { results := [.lit (.bool true)], args := [d] }
  | _ => none }
def fnReplacedMovesRow : OpenClaim := { program := "ytmikoihpmhfafaa", sum := "d67e2ea665213860b95b06949086e30420af91208a0e7bd1c9d0a2b08cb34cd0", func := "loop.example/g01108/laws.FnReplacedMoves", spec := "fnReplacedMoves", unfollowed := true, recurses := true, plainKeys := false, apart := false }
def FnReplacedMovesSaid : Prop := fnReplacedMovesRow.holds Try.pinned (OpenSpec.ofChange fnReplacedMovesSpec)

/-- ITS FALSE NEIGHBOUR: 'it returns false'. Refute it at one input. -/
def fnReplacedMovesWrong : ChangeSpec := { name := "fnReplacedMoves", fn := fun _ => fun
  | [d] => { results := [.lit (.bool false)], args := [d] }
  | _ => none }
def FnReplacedMovesWrongFalsely : Prop := fnReplacedMovesRow.holds Try.pinned (OpenSpec.ofChange fnReplacedMovesWrong)

/-- 'laws.FnAutomorphisms': WHATEVER THE INPUT: true; the input reads as it did. -/
def fnAutomorphismsSpec : ChangeSpec := { name := "fnAutomorphisms", fn := fun _ => fun
  | [d] => { results := [.lit (.bool true)], args := [d] }
  | _ => none }
def fnAutomorphismsRow : OpenClaim := { program := "ytmikoihpmhfafaa", sum := "d67e2ea665213860b95b06949086e30420af91208a0e7bd1c9d0a2b08cb34cd0", func := "loop.example/g01108/laws.FnAutomorphisms", spec := "fnAutomorphisms", plainKeys := false, apart := false }
def FnAutomorphismsSaid : Prop := fnAutomorphismsRow.holds Try.pinned (OpenSpec.ofChange fnAutomorphismsSpec)

/-- ITS FALSE NEIGHBOUR: 'it returns false'. Refute it at one input. -/
def fnAutomorphismsWrong : ChangeSpec := { name := "fnAutomorphisms", fn := fun _ => fun
  | [d] => { results := [.lit (.bool false)], args := [d] }
  | _ => none }
def FnAutomorphismsWrongFalsely : Prop := fnAutomorphismsRow.holds Try.pinned (OpenSpec.ofChange fnAutomorphismsWrong)

/-- 'laws.FnIsomorphisms': WHATEVER THE INPUT: true; the input reads as it did. -/
def fnIsomorphismsSpec : ChangeSpec := { name := "fnIsomorphisms", fn := fun _ => fun
  | [d] => { results := [.lit (.bool true)], args := [d] }
  | _ => none }
def fnIsomorphismsRow : OpenClaim := { program := "ytmikoihpmhfafaa", sum := "d67e2ea665213860b95b06949086e30420af91208a0e7bd1c9d0a2b08cb34cd0", func := "loop.example/g01108/laws.FnIsomorphisms", spec := "fnIsomorphisms", unfollowed := true, recurses := true, plainKeys := false, apart := false }
def FnIsomorphismsSaid : Prop := fnIsomorphismsRow.holds Try.pinned (OpenSpec.ofChange fnIsomorphismsSpec)

/-- ITS FALSE NEIGHBOUR: 'it returns false'. Refute it at one input. -/
def fnIsomorphismsWrong : ChangeSpec := { name := "fnIsomorphisms", fn := fun _ => fun
  | [d] => { results := [.lit (.bool false)], args := [d] }
  | _ => none }
def FnIsomorphismsWrongFalsely : Prop := fnIsomorphismsRow.holds Try.pinned (OpenSpec.ofChange fnIsomorphismsWrong)

/-- 'laws.FnStabilizers': WHATEVER THE INPUT: true; the input reads as it did. -/
def fnStabilizersSpec : ChangeSpec := { name := "fnStabilizers", fn := fun _ => fun
  | [d] => { results := [.lit (.bool true)], args := [d] }
  | _ => none }
def fnStabilizersRow : OpenClaim := { program := "ytmikoihpmhfafaa", sum := "d67e2ea665213860b95b06949086e30420af91208a0e7bd1c9d0a2b08cb34cd0", func := "loop.example/g01108/laws.FnStabilizers", spec := "fnStabilizers", plainKeys := false, apart := false }
def FnStabilizersSaid : Prop := fnStabilizersRow.holds Try.pinned (OpenSpec.ofChange fnStabilizersSpec)

/-- ITS FALSE NEIGHBOUR: 'it returns false'. Refute it at one input. -/
def fnStabilizersWrong : ChangeSpec := { name := "fnStabilizers", fn := fun _ => fun
  | [d] => { results := [.lit (.bool false)], args := [d] }
  | _ => none }
def FnStabilizersWrongFalsely : Prop := fnStabilizersRow.holds Try.pinned (OpenSpec.ofChange fnStabilizersWrong)

/-- 'laws.FnSymmetryTypes': WHATEVER THE INPUT: true; the input reads as it did. -/
def fnSymmetryTypesSpec : ChangeSpec := { name := "fnSymmetryTypes", fn := fun _ => fun
  | [d] => { results := [.lit (.bool true)], args := [d] }
  | _ => none }
def fnSymmetryTypesRow : OpenClaim := { program := "ytmikoihpmhfafaa", sum := "d67e2ea665213860b95b06949086e30420af91208a0e7bd1c9d0a2b08cb34cd0", func := "loop.example/g01108/laws.FnSymmetryTypes", spec := "fnSymmetryTypes", plainKeys := false, apart := false }
def FnSymmetryTypesSaid : Prop := fnSymmetryTypesRow.holds Try.pinned (OpenSpec.ofChange fnSymmetryTypesSpec)

/-- ITS FALSE NEIGHBOUR: 'it returns false'. Refute it at one input. -/
def fnSymmetryTypesWrong : ChangeSpec := { name := "fnSymmetryTypes", fn := fun _ => fun
  | [d] => { results := [.lit (.bool false)], args := [d] }
  | _ => none }
def FnSymmetryTypesWrongFalsely : Prop := fnSymmetryTypesRow.holds Try.pinned (OpenSpec.ofChange fnSymmetryTypesWrong)

/-- 'laws.FnExactIsomorphismOf': WHATEVER THE INPUT: true; the input reads as it did. -/
def fnExactIsomorphismOfSpec : ChangeSpec := { name := "fnExactIsomorphismOf", fn := fun _ => fun
  | [d1, d2] => { results := [.lit (.bool true)], args := [d1, d2] }
  | _ => none }
def fnExactIsomorphismOfRow : OpenClaim := { program := "ytmikoihpmhfafaa", sum := "d67e2ea665213860b95b06949086e30420af91208a0e7bd1c9d0a2b08cb34cd0", func := "loop.example/g01108/laws.FnExactIsomorphismOf", spec := "fnExactIsomorphismOf", plainKeys := false, apart := false }
def FnExactIsomorphismOfSaid : Prop := fnExactIsomorphismOfRow.holds Try.pinned (OpenSpec.ofChange fnExactIsomorphismOfSpec)

/-- ITS FALSE NEIGHBOUR: 'it returns false'. Refute it at one input. -/
def fnExactIsomorphismOfWrong : ChangeSpec := { name := "fnExactIsomorphismOf", fn := fun _ => fun
  | [d1, d2] => { results := [.lit (.bool false)], args := [d1, d2] }
  | _ => none }
def FnExactIsomorphismOfWrongFalsely : Prop := fnExactIsomorphismOfRow.holds Try.pinned (OpenSpec.ofChange fnExactIsomorphismOfWrong)

/-- 'laws.FnExactAreIsomorphic': WHATEVER THE INPUT: true; the input reads as it did. -/
def fnExactAreIsomorphicSpec : ChangeSpec := { name := "fnExactAreIsomorphic", fn := fun _ => fun
  | [d1, d2] => { results := [.lit (.bool true)], args := [d1, d2] }
  | _ => none }
def fnExactAreIsomorphicRow : OpenClaim := { program := "ytmikoihpmhfafaa", sum := "d67e2ea665213860b95b06949086e30420af91208a0e7bd1c9d0a2b08cb34cd0", func := "loop.example/g01108/laws.FnExactAreIsomorphic", spec := "fnExactAreIsomorphic", plainKeys := false, apart := false }
def FnExactAreIsomorphicSaid : Prop := fnExactAreIsomorphicRow.holds Try.pinned (OpenSpec.ofChange fnExactAreIsomorphicSpec)

/-- ITS FALSE NEIGHBOUR: 'it returns false'. Refute it at one input. -/
def fnExactAreIsomorphicWrong : ChangeSpec := { name := "fnExactAreIsomorphic", fn := fun _ => fun
  | [d1, d2] => { results := [.lit (.bool false)], args := [d1, d2] }
  | _ => none }
def FnExactAreIsomorphicWrongFalsely : Prop := fnExactAreIsomorphicRow.holds Try.pinned (OpenSpec.ofChange fnExactAreIsomorphicWrong)

/-- 'laws.FnExactAutomorphismTo': WHATEVER THE INPUT: true; the input reads as it did. -/
def fnExactAutomorphismToSpec : ChangeSpec := { name := "fnExactAutomorphismTo", fn := fun _ => fun
  | [d1, d2] => { results := [.lit (.bool true)], args := [d1, d2] }
  | _ => none }
def fnExactAutomorphismToRow : OpenClaim := { program := "ytmikoihpmhfafaa", sum := "d67e2ea665213860b95b06949086e30420af91208a0e7bd1c9d0a2b08cb34cd0", func := "loop.example/g01108/laws.FnExactAutomorphismTo", spec := "fnExactAutomorphismTo", plainKeys := false, apart := false }
def FnExactAutomorphismToSaid : Prop := fnExactAutomorphismToRow.holds Try.pinned (OpenSpec.ofChange fnExactAutomorphismToSpec)

/-- ITS FALSE NEIGHBOUR: 'it returns false'. Refute it at one input. -/
def fnExactAutomorphismToWrong : ChangeSpec := { name := "fnExactAutomorphismTo", fn := fun _ => fun
  | [d1, d2] => { results := [.lit (.bool false)], args := [d1, d2] }
  | _ => none }
def FnExactAutomorphismToWrongFalsely : Prop := fnExactAutomorphismToRow.holds Try.pinned (OpenSpec.ofChange fnExactAutomorphismToWrong)

/-- 'laws.FnExactAutomorphismsOf': WHATEVER THE INPUT: true; the input reads as it did. -/
def fnExactAutomorphismsOfSpec : ChangeSpec := { name := "fnExactAutomorphismsOf", fn := fun _ => fun
  | [d] => { results := [.lit (.bool true)], args := [d] }
  | _ => none }
def fnExactAutomorphismsOfRow : OpenClaim := { program := "ytmikoihpmhfafaa", sum := "d67e2ea665213860b95b06949086e30420af91208a0e7bd1c9d0a2b08cb34cd0", func := "loop.example/g01108/laws.FnExactAutomorphismsOf", spec := "fnExactAutomorphismsOf", plainKeys := false, apart := false }
def FnExactAutomorphismsOfSaid : Prop := fnExactAutomorphismsOfRow.holds Try.pinned (OpenSpec.ofChange fnExactAutomorphismsOfSpec)

/-- ITS FALSE NEIGHBOUR: 'it returns false'. Refute it at one input. -/
def fnExactAutomorphismsOfWrong : ChangeSpec := { name := "fnExactAutomorphismsOf", fn := fun _ => fun
  | [d] => { results := [.lit (.bool false)], args := [d] }
  | _ => none }
def FnExactAutomorphismsOfWrongFalsely : Prop := fnExactAutomorphismsOfRow.holds Try.pinned (OpenSpec.ofChange fnExactAutomorphismsOfWrong)

/-- 'laws.FnExactCountAutomorphisms': WHATEVER THE INPUT: true; the input reads as it did. -/
def fnExactCountAutomorphismsSpec : ChangeSpec := { name := "fnExactCountAutomorphisms", fn := fun _ => fun
  | [d] => { results := [.lit (.bool true)], args := [d] }
  | _ => none }
def fnExactCountAutomorphismsRow : OpenClaim := { program := "ytmikoihpmhfafaa", sum := "d67e2ea665213860b95b06949086e30420af91208a0e7bd1c9d0a2b08cb34cd0", func := "loop.example/g01108/laws.FnExactCountAutomorphisms", spec := "fnExactCountAutomorphisms", plainKeys := false, apart := false }
def FnExactCountAutomorphismsSaid : Prop := fnExactCountAutomorphismsRow.holds Try.pinned (OpenSpec.ofChange fnExactCountAutomorphismsSpec)

/-- ITS FALSE NEIGHBOUR: 'it returns false'. Refute it at one input. -/
def fnExactCountAutomorphismsWrong : ChangeSpec := { name := "fnExactCountAutomorphisms", fn := fun _ => fun
  | [d] => { results := [.lit (.bool false)], args := [d] }
  | _ => none }
def FnExactCountAutomorphismsWrongFalsely : Prop := fnExactCountAutomorphismsRow.holds Try.pinned (OpenSpec.ofChange fnExactCountAutomorphismsWrong)

/-- 'laws.FnExactFlagOrbits': WHATEVER THE INPUT: true; the input reads as it did. -/
def fnExactFlagOrbitsSpec : ChangeSpec := { name := "fnExactFlagOrbits", fn := fun _ => fun
  | [d] => { results := [.lit (.bool true)], args := [d] }
  | _ => none }
def fnExactFlagOrbitsRow : OpenClaim := { program := "ytmikoihpmhfafaa", sum := "d67e2ea665213860b95b06949086e30420af91208a0e7bd1c9d0a2b08cb34cd0", func := "loop.example/g01108/laws.FnExactFlagOrbits", spec := "fnExactFlagOrbits", plainKeys := false, apart := false }
def FnExactFlagOrbitsSaid : Prop := fnExactFlagOrbitsRow.holds Try.pinned (OpenSpec.ofChange fnExactFlagOrbitsSpec)

/-- ITS FALSE NEIGHBOUR: 'it returns false'. Refute it at one input. -/
def fnExactFlagOrbitsWrong : ChangeSpec := { name := "fnExactFlagOrbits", fn := fun _ => fun
  | [d] => { results := [.lit (.bool false)], args := [d] }
  | _ => none }
def FnExactFlagOrbitsWrongFalsely : Prop := fnExactFlagOrbitsRow.holds Try.pinned (OpenSpec.ofChange fnExactFlagOrbitsWrong)

/-- 'laws.FnExactFaceOrbits': WHATEVER THE INPUT: true; the input reads as it did. -/
def fnExactFaceOrbitsSpec : ChangeSpec := { name := "fnExactFaceOrbits", fn := fun _ => fun
  | [d1, d2] => { results := [.lit (.bool true)], args := [d1, d2] }
  | _ => none }
def fnExactFaceOrbitsRow : OpenClaim := { program := "ytmikoihpmhfafaa", sum := "d67e2ea665213860b95b06949086e30420af91208a0e7bd1c9d0a2b08cb34cd0", func := "loop.example/g01108/laws.FnExactFaceOrbits", spec := "fnExactFaceOrbits", plainKeys := false, apart := false }
def FnExactFaceOrbitsSaid : Prop := fnExactFaceOrbitsRow.holds Try.pinned (OpenSpec.ofChange fnExactFaceOrbitsSpec)

/-- ITS FALSE NEIGHBOUR: 'it returns false'. Refute it at one input. -/
def fnExactFaceOrbitsWrong : ChangeSpec := { name := "fnExactFaceOrbits", fn := fun _ => fun
  | [d1, d2] => { results := [.lit (.bool false)], args := [d1, d2] }
  | _ => none }
def FnExactFaceOrbitsWrongFalsely : Prop := fnExactFaceOrbitsRow.holds Try.pinned (OpenSpec.ofChange fnExactFaceOrbitsWrong)

/-- 'laws.FnExactIsRegular': WHATEVER THE INPUT: true; the input reads as it did. -/
def fnExactIsRegularSpec : ChangeSpec := { name := "fnExactIsRegular", fn := fun _ => fun
  | [d] => { results := [.lit (.bool true)], args := [d] }
  | _ => none }
def fnExactIsRegularRow : OpenClaim := { program := "ytmikoihpmhfafaa", sum := "d67e2ea665213860b95b06949086e30420af91208a0e7bd1c9d0a2b08cb34cd0", func := "loop.example/g01108/laws.FnExactIsRegular", spec := "fnExactIsRegular", plainKeys := false, apart := false }
def FnExactIsRegularSaid : Prop := fnExactIsRegularRow.holds Try.pinned (OpenSpec.ofChange fnExactIsRegularSpec)

/-- ITS FALSE NEIGHBOUR: 'it returns false'. Refute it at one input. -/
def fnExactIsRegularWrong : ChangeSpec := { name := "fnExactIsRegular", fn := fun _ => fun
  | [d] => { results := [.lit (.bool false)], args := [d] }
  | _ => none }
def FnExactIsRegularWrongFalsely : Prop := fnExactIsRegularRow.holds Try.pinned (OpenSpec.ofChange fnExactIsRegularWrong)

/-- 'laws.FnExactIsChiral': WHATEVER THE INPUT: true; the input reads as it did. -/
def fnExactIsChiralSpec : ChangeSpec := { name := "fnExactIsChiral", fn := fun _ => fun
  | [d] => { results := [.lit (.bool true)], args := [d] }
  | _ => none }
def fnExactIsChiralRow : OpenClaim := { program := "ytmikoihpmhfafaa", sum := "d67e2ea665213860b95b06949086e30420af91208a0e7bd1c9d0a2b08cb34cd0", func := "loop.example/g01108/laws.FnExactIsChiral", spec := "fnExactIsChiral", plainKeys := false, apart := false }
def FnExactIsChiralSaid : Prop := fnExactIsChiralRow.holds Try.pinned (OpenSpec.ofChange fnExactIsChiralSpec)

/-- ITS FALSE NEIGHBOUR: 'it returns false'. Refute it at one input. -/
def fnExactIsChiralWrong : ChangeSpec := { name := "fnExactIsChiral", fn := fun _ => fun
  | [d] => { results := [.lit (.bool false)], args := [d] }
  | _ => none }
def FnExactIsChiralWrongFalsely : Prop := fnExactIsChiralRow.holds Try.pinned (OpenSpec.ofChange fnExactIsChiralWrong)

/-- 'laws.FnExactSymmetryType': WHATEVER THE INPUT: true; the input reads as it did. -/
def fnExactSymmetryTypeSpec : ChangeSpec := { name := "fnExactSymmetryType", fn := fun _ => fun
  | [d] => { results := [.lit (.bool true)], args := [d] }
  | _ => none }
def fnExactSymmetryTypeRow : OpenClaim := { program := "ytmikoihpmhfafaa", sum := "d67e2ea665213860b95b06949086e30420af91208a0e7bd1c9d0a2b08cb34cd0", func := "loop.example/g01108/laws.FnExactSymmetryType", spec := "fnExactSymmetryType", plainKeys := false, apart := false }
def FnExactSymmetryTypeSaid : Prop := fnExactSymmetryTypeRow.holds Try.pinned (OpenSpec.ofChange fnExactSymmetryTypeSpec)

/-- ITS FALSE NEIGHBOUR: 'it returns false'. Refute it at one input. -/
def fnExactSymmetryTypeWrong : ChangeSpec := { name := "fnExactSymmetryType", fn := fun _ => fun
  | [d] => { results := [.lit (.bool false)], args := [d] }
  | _ => none }
def FnExactSymmetryTypeWrongFalsely : Prop := fnExactSymmetryTypeRow.holds Try.pinned (OpenSpec.ofChange fnExactSymmetryTypeWrong)

/-- 'laws.FnExactStabilizerOf': WHATEVER THE INPUT: true; the input reads as it did. -/
def fnExactStabilizerOfSpec : ChangeSpec := { name := "fnExactStabilizerOf", fn := fun _ => fun
  | [d1, d2, d3] => { results := [.lit (.bool true)], args := [d1, d2, d3] }
  | _ => none }
def fnExactStabilizerOfRow : OpenClaim := { program := "ytmikoihpmhfafaa", sum := "d67e2ea665213860b95b06949086e30420af91208a0e7bd1c9d0a2b08cb34cd0", func := "loop.example/g01108/laws.FnExactStabilizerOf", spec := "fnExactStabilizerOf", plainKeys := false, apart := false }
def FnExactStabilizerOfSaid : Prop := fnExactStabilizerOfRow.holds Try.pinned (OpenSpec.ofChange fnExactStabilizerOfSpec)

/-- ITS FALSE NEIGHBOUR: 'it returns false'. Refute it at one input. -/
def fnExactStabilizerOfWrong : ChangeSpec := { name := "fnExactStabilizerOf", fn := fun _ => fun
  | [d1, d2, d3] => { results := [.lit (.bool false)], args := [d1, d2, d3] }
  | _ => none }
def FnExactStabilizerOfWrongFalsely : Prop := fnExactStabilizerOfRow.holds Try.pinned (OpenSpec.ofChange fnExactStabilizerOfWrong)

/-- 'laws.FnExactIsTransitiveOn': WHATEVER THE INPUT: true; the input reads as it did. -/
def fnExactIsTransitiveOnSpec : ChangeSpec := { name := "fnExactIsTransitiveOn", fn := fun _ => fun
  | [d1, d2] => { results := [.lit (.bool true)], args := [d1, d2] }
  | _ => none }
def fnExactIsTransitiveOnRow : OpenClaim := { program := "ytmikoihpmhfafaa", sum := "d67e2ea665213860b95b06949086e30420af91208a0e7bd1c9d0a2b08cb34cd0", func := "loop.example/g01108/laws.FnExactIsTransitiveOn", spec := "fnExactIsTransitiveOn", plainKeys := false, apart := false }
def FnExactIsTransitiveOnSaid : Prop := fnExactIsTransitiveOnRow.holds Try.pinned (OpenSpec.ofChange fnExactIsTransitiveOnSpec)

/-- ITS FALSE NEIGHBOUR: 'it returns false'. Refute it at one input. -/
def fnExactIsTransitiveOnWrong : ChangeSpec := { name := "fnExactIsTransitiveOn", fn := fun _ => fun
  | [d1, d2] => { results := [.lit (.bool false)], args := [d1, d2] }
  | _ => none }
def FnExactIsTransitiveOnWrongFalsely : Prop := fnExactIsTransitiveOnRow.holds Try.pinned (OpenSpec.ofChange fnExactIsTransitiveOnWrong)

/-- 'laws.FnExactStandardAutomorphisms': WHATEVER THE INPUT: true; the input reads as it did. -/
def fnExactStandardAutomorphismsSpec : ChangeSpec := { name := "fnExactStandardAutomorphisms", fn := fun _ => fun
  | [d] => { results := [.lit (.bool true)], args := [d] }
  | _ => none }
def fnExactStandardAutomorphismsRow : OpenClaim := { program := "ytmikoihpmhfafaa", sum := "d67e2ea665213860b95b06949086e30420af91208a0e7bd1c9d0a2b08cb34cd0", func := "loop.example/g01108/laws.FnExactStandardAutomorphisms", spec := "fnExactStandardAutomorphisms", plainKeys := false, apart := false }
def FnExactStandardAutomorphismsSaid : Prop := fnExactStandardAutomorphismsRow.holds Try.pinned (OpenSpec.ofChange fnExactStandardAutomorphismsSpec)

/-- ITS FALSE NEIGHBOUR: 'it returns false'. Refute it at one input. -/
def fnExactStandardAutomorphismsWrong : ChangeSpec := { name := "fnExactStandardAutomorphisms", fn := fun _ => fun
  | [d] => { results := [.lit (.bool false)], args := [d] }
  | _ => none }
def FnExactStandardAutomorphismsWrongFalsely : Prop := fnExactStandardAutomorphismsRow.holds Try.pinned (OpenSpec.ofChange fnExactStandardAutomorphismsWrong)

/- THE SECOND FORM. 'bulk': how many values and letters a reading holds, each counted each time it is reached (what is shared counts as often as it is met; a slice's spare places count too). A statement '..UptoSaid' is the law's where the arguments, and the package variables that the reading takes, are together of bulk at most 1048576: NARROWER than '..Said'. Prove '..Said' where nothing that the law and all that it calls make is longer than what came in: it says more and counts as full. Else prove '..UptoSaid'. A law counts once. -/
mutual
def uptoBulk {H : Type} : DataW H → Nat
  | .lit (.string bytes) => bytes.length + 1
  | .lit _ => 1
  | .nil => 1
  | .ptr d => uptoBulk d + 1
  | .slice elems spare => uptoBulkAll elems + uptoBulkAll spare + 1
  | .agg parts => uptoBulkAll parts + 1
  | .iface _ d => uptoBulk d + 1
  | .map entries => uptoBulkEntries entries + 1
  | .held _ => 1
def uptoBulkAll {H : Type} : List (DataW H) → Nat
  | [] => 0
  | d :: r => uptoBulk d + uptoBulkAll r
def uptoBulkEntries {H : Type} : List (Lit × DataW H) → Nat
  | [] => 0
  | x :: r => uptoBulkEntry x + uptoBulkEntries r
def uptoBulkEntry {H : Type} : Lit × DataW H → Nat
  | (.string bytes, d) => bytes.length + uptoBulk d + 1
  | (_, d) => uptoBulk d + 1
 end
def uptoSmall : (H : Type) → List (DataW H) → Bool := fun _ ds => decide (uptoBulkAll ds ≤ 1048576)
def OpenSpec.upto (s : _root_.Go.ChangeSpec) : _root_.Go.OpenSpec := { _root_.Go.OpenSpec.ofChange s with cond := some uptoSmall }

/-- 'laws.FnExtensions', WHERE WHAT IT READS IS OF BULK AT MOST 1048576: true; the input reads as it did. -/
def fnExtensionsUptoRow : OpenClaim := { program := "ytmikoihpmhfafaa", sum := "d67e2ea665213860b95b06949086e30420af91208a0e7bd1c9d0a2b08cb34cd0", func := "loop.example/g01108/laws.FnExtensions", spec := "fnExtensions", inPlace := ["slices.overlaps[[]int64]"], unfollowed := true, recurses := true, plainKeys := false, apart := false, narrowed := true }
def FnExtensionsUptoSaid : Prop := fnExtensionsUptoRow.holds Try.pinned (OpenSpec.upto fnExtensionsSpec)

/-- 'laws.FnReplacedMoves', WHERE WHAT IT READS IS OF BULK AT MOST 1048576: true; the input reads as it did. -/
def fnReplacedMovesUptoRow : OpenClaim := { program := "ytmikoihpmhfafaa", sum := "d67e2ea665213860b95b06949086e30420af91208a0e7bd1c9d0a2b08cb34cd0", func := "loop.example/g01108/laws.FnReplacedMoves", spec := "fnReplacedMoves", unfollowed := true, recurses := true, plainKeys := false, apart := false, narrowed := true }
def FnReplacedMovesUptoSaid : Prop := fnReplacedMovesUptoRow.holds Try.pinned (OpenSpec.upto fnReplacedMovesSpec)

/-- 'laws.FnAutomorphisms', WHERE WHAT IT READS IS OF BULK AT MOST 1048576: true; the input reads as it did. -/
def fnAutomorphismsUptoRow : OpenClaim := { program := "ytmikoihpmhfafaa", sum := "d67e2ea665213860b95b06949086e30420af91208a0e7bd1c9d0a2b08cb34cd0", func := "loop.example/g01108/laws.FnAutomorphisms", spec := "fnAutomorphisms", plainKeys := false, apart := false, narrowed := true }
def FnAutomorphismsUptoSaid : Prop := fnAutomorphismsUptoRow.holds Try.pinned (OpenSpec.upto fnAutomorphismsSpec)

/-- 'laws.FnIsomorphisms', WHERE WHAT IT READS IS OF BULK AT MOST 1048576: true; the input reads as it did. -/
def fnIsomorphismsUptoRow : OpenClaim := { program := "ytmikoihpmhfafaa", sum := "d67e2ea665213860b95b06949086e30420af91208a0e7bd1c9d0a2b08cb34cd0", func := "loop.example/g01108/laws.FnIsomorphisms", spec := "fnIsomorphisms", unfollowed := true, recurses := true, plainKeys := false, apart := false, narrowed := true }
def FnIsomorphismsUptoSaid : Prop := fnIsomorphismsUptoRow.holds Try.pinned (OpenSpec.upto fnIsomorphismsSpec)

/-- 'laws.FnStabilizers', WHERE WHAT IT READS IS OF BULK AT MOST 1048576: true; the input reads as it did. -/
def fnStabilizersUptoRow : OpenClaim := { program := "ytmikoihpmhfafaa", sum := "d67e2ea665213860b95b06949086e30420af91208a0e7bd1c9d0a2b08cb34cd0", func := "loop.example/g01108/laws.FnStabilizers", spec := "fnStabilizers", plainKeys := false, apart := false, narrowed := true }
def FnStabilizersUptoSaid : Prop := fnStabilizersUptoRow.holds Try.pinned (OpenSpec.upto fnStabilizersSpec)

/-- 'laws.FnSymmetryTypes', WHERE WHAT IT READS IS OF BULK AT MOST 1048576: true; the input reads as it did. -/
def fnSymmetryTypesUptoRow : OpenClaim := { program := "ytmikoihpmhfafaa", sum := "d67e2ea665213860b95b06949086e30420af91208a0e7bd1c9d0a2b08cb34cd0", func := "loop.example/g01108/laws.FnSymmetryTypes", spec := "fnSymmetryTypes", plainKeys := false, apart := false, narrowed := true }
def FnSymmetryTypesUptoSaid : Prop := fnSymmetryTypesUptoRow.holds Try.pinned (OpenSpec.upto fnSymmetryTypesSpec)

/-- 'laws.FnExactIsomorphismOf', WHERE WHAT IT READS IS OF BULK AT MOST 1048576: true; the input reads as it did. -/
def fnExactIsomorphismOfUptoRow : OpenClaim := { program := "ytmikoihpmhfafaa", sum := "d67e2ea665213860b95b06949086e30420af91208a0e7bd1c9d0a2b08cb34cd0", func := "loop.example/g01108/laws.FnExactIsomorphismOf", spec := "fnExactIsomorphismOf", plainKeys := false, apart := false, narrowed := true }
def FnExactIsomorphismOfUptoSaid : Prop := fnExactIsomorphismOfUptoRow.holds Try.pinned (OpenSpec.upto fnExactIsomorphismOfSpec)

/-- 'laws.FnExactAreIsomorphic', WHERE WHAT IT READS IS OF BULK AT MOST 1048576: true; the input reads as it did. -/
def fnExactAreIsomorphicUptoRow : OpenClaim := { program := "ytmikoihpmhfafaa", sum := "d67e2ea665213860b95b06949086e30420af91208a0e7bd1c9d0a2b08cb34cd0", func := "loop.example/g01108/laws.FnExactAreIsomorphic", spec := "fnExactAreIsomorphic", plainKeys := false, apart := false, narrowed := true }
def FnExactAreIsomorphicUptoSaid : Prop := fnExactAreIsomorphicUptoRow.holds Try.pinned (OpenSpec.upto fnExactAreIsomorphicSpec)

/-- 'laws.FnExactAutomorphismTo', WHERE WHAT IT READS IS OF BULK AT MOST 1048576: true; the input reads as it did. -/
def fnExactAutomorphismToUptoRow : OpenClaim := { program := "ytmikoihpmhfafaa", sum := "d67e2ea665213860b95b06949086e30420af91208a0e7bd1c9d0a2b08cb34cd0", func := "loop.example/g01108/laws.FnExactAutomorphismTo", spec := "fnExactAutomorphismTo", plainKeys := false, apart := false, narrowed := true }
def FnExactAutomorphismToUptoSaid : Prop := fnExactAutomorphismToUptoRow.holds Try.pinned (OpenSpec.upto fnExactAutomorphismToSpec)

/-- 'laws.FnExactAutomorphismsOf', WHERE WHAT IT READS IS OF BULK AT MOST 1048576: true; the input reads as it did. -/
def fnExactAutomorphismsOfUptoRow : OpenClaim := { program := "ytmikoihpmhfafaa", sum := "d67e2ea665213860b95b06949086e30420af91208a0e7bd1c9d0a2b08cb34cd0", func := "loop.example/g01108/laws.FnExactAutomorphismsOf", spec := "fnExactAutomorphismsOf", plainKeys := false, apart := false, narrowed := true }
def FnExactAutomorphismsOfUptoSaid : Prop := fnExactAutomorphismsOfUptoRow.holds Try.pinned (OpenSpec.upto fnExactAutomorphismsOfSpec)

/-- 'laws.FnExactCountAutomorphisms', WHERE WHAT IT READS IS OF BULK AT MOST 1048576: true; the input reads as it did. -/
def fnExactCountAutomorphismsUptoRow : OpenClaim := { program := "ytmikoihpmhfafaa", sum := "d67e2ea665213860b95b06949086e30420af91208a0e7bd1c9d0a2b08cb34cd0", func := "loop.example/g01108/laws.FnExactCountAutomorphisms", spec := "fnExactCountAutomorphisms", plainKeys := false, apart := false, narrowed := true }
def FnExactCountAutomorphismsUptoSaid : Prop := fnExactCountAutomorphismsUptoRow.holds Try.pinned (OpenSpec.upto fnExactCountAutomorphismsSpec)

/-- 'laws.FnExactFlagOrbits', WHERE WHAT IT READS IS OF BULK AT MOST 1048576: true; the input reads as it did. -/
def fnExactFlagOrbitsUptoRow : OpenClaim := { program := "ytmikoihpmhfafaa", sum := "d67e2ea665213860b95b06949086e30420af91208a0e7bd1c9d0a2b08cb34cd0", func := "loop.example/g01108/laws.FnExactFlagOrbits", spec := "fnExactFlagOrbits", plainKeys := false, apart := false, narrowed := true }
def FnExactFlagOrbitsUptoSaid : Prop := fnExactFlagOrbitsUptoRow.holds Try.pinned (OpenSpec.upto fnExactFlagOrbitsSpec)

/-- 'laws.FnExactFaceOrbits', WHERE WHAT IT READS IS OF BULK AT MOST 1048576: true; the input reads as it did. -/
def fnExactFaceOrbitsUptoRow : OpenClaim := { program := "ytmikoihpmhfafaa", sum := "d67e2ea665213860b95b06949086e30420af91208a0e7bd1c9d0a2b08cb34cd0", func := "loop.example/g01108/laws.FnExactFaceOrbits", spec := "fnExactFaceOrbits", plainKeys := false, apart := false, narrowed := true }
def FnExactFaceOrbitsUptoSaid : Prop := fnExactFaceOrbitsUptoRow.holds Try.pinned (OpenSpec.upto fnExactFaceOrbitsSpec)

/-- 'laws.FnExactIsRegular', WHERE WHAT IT READS IS OF BULK AT MOST 1048576: true; the input reads as it did. -/
def fnExactIsRegularUptoRow : OpenClaim := { program := "ytmikoihpmhfafaa", sum := "d67e2ea665213860b95b06949086e30420af91208a0e7bd1c9d0a2b08cb34cd0", func := "loop.example/g01108/laws.FnExactIsRegular", spec := "fnExactIsRegular", plainKeys := false, apart := false, narrowed := true }
def FnExactIsRegularUptoSaid : Prop := fnExactIsRegularUptoRow.holds Try.pinned (OpenSpec.upto fnExactIsRegularSpec)

/-- 'laws.FnExactIsChiral', WHERE WHAT IT READS IS OF BULK AT MOST 1048576: true; the input reads as it did. -/
def fnExactIsChiralUptoRow : OpenClaim := { program := "ytmikoihpmhfafaa", sum := "d67e2ea665213860b95b06949086e30420af91208a0e7bd1c9d0a2b08cb34cd0", func := "loop.example/g01108/laws.FnExactIsChiral", spec := "fnExactIsChiral", plainKeys := false, apart := false, narrowed := true }
def FnExactIsChiralUptoSaid : Prop := fnExactIsChiralUptoRow.holds Try.pinned (OpenSpec.upto fnExactIsChiralSpec)

/-- 'laws.FnExactSymmetryType', WHERE WHAT IT READS IS OF BULK AT MOST 1048576: true; the input reads as it did. -/
def fnExactSymmetryTypeUptoRow : OpenClaim := { program := "ytmikoihpmhfafaa", sum := "d67e2ea665213860b95b06949086e30420af91208a0e7bd1c9d0a2b08cb34cd0", func := "loop.example/g01108/laws.FnExactSymmetryType", spec := "fnExactSymmetryType", plainKeys := false, apart := false, narrowed := true }
def FnExactSymmetryTypeUptoSaid : Prop := fnExactSymmetryTypeUptoRow.holds Try.pinned (OpenSpec.upto fnExactSymmetryTypeSpec)

/-- 'laws.FnExactStabilizerOf', WHERE WHAT IT READS IS OF BULK AT MOST 1048576: true; the input reads as it did. -/
def fnExactStabilizerOfUptoRow : OpenClaim := { program := "ytmikoihpmhfafaa", sum := "d67e2ea665213860b95b06949086e30420af91208a0e7bd1c9d0a2b08cb34cd0", func := "loop.example/g01108/laws.FnExactStabilizerOf", spec := "fnExactStabilizerOf", plainKeys := false, apart := false, narrowed := true }
def FnExactStabilizerOfUptoSaid : Prop := fnExactStabilizerOfUptoRow.holds Try.pinned (OpenSpec.upto fnExactStabilizerOfSpec)

/-- 'laws.FnExactIsTransitiveOn', WHERE WHAT IT READS IS OF BULK AT MOST 1048576: true; the input reads as it did. -/
def fnExactIsTransitiveOnUptoRow : OpenClaim := { program := "ytmikoihpmhfafaa", sum := "d67e2ea665213860b95b06949086e30420af91208a0e7bd1c9d0a2b08cb34cd0", func := "loop.example/g01108/laws.FnExactIsTransitiveOn", spec := "fnExactIsTransitiveOn", plainKeys := false, apart := false, narrowed := true }
def FnExactIsTransitiveOnUptoSaid : Prop := fnExactIsTransitiveOnUptoRow.holds Try.pinned (OpenSpec.upto fnExactIsTransitiveOnSpec)

/-- 'laws.FnExactStandardAutomorphisms', WHERE WHAT IT READS IS OF BULK AT MOST 1048576: true; the input reads as it did. -/
def fnExactStandardAutomorphismsUptoRow : OpenClaim := { program := "ytmikoihpmhfafaa", sum := "d67e2ea665213860b95b06949086e30420af91208a0e7bd1c9d0a2b08cb34cd0", func := "loop.example/g01108/laws.FnExactStandardAutomorphisms", spec := "fnExactStandardAutomorphisms", plainKeys := false, apart := false, narrowed := true }
def FnExactStandardAutomorphismsUptoSaid : Prop := fnExactStandardAutomorphismsUptoRow.holds Try.pinned (OpenSpec.upto fnExactStandardAutomorphismsSpec)

end Rows
end Go.Proofs.Ytmikoihpmhfafaa
