/-
  No cell of these rows narrows 'for every input' (looked for: loops, veiled, ifaces, maps, wideKeys, modest, calm, conditions, laid).
  DERIVED. THE GIVEN ROWS OF THIS SEAT. 13 by the template 'for every input the law returns true; each argument reads behind the call as it read before'; 0 by the template 'total and deterministic' (their statements: YtmgoaabeopnopaaTotals.lean).
  GIVEN WITH THE SEED: the statements are not yours to turn. If you find one false, say at which input.
  Laid BY PROGRAM, IN A SANDBOX (cutbox-rows.mjs): the forced cells as the released guide's own fill.sh prints them over the translation e22aef6565b9dbc7… (all of the seat's roots in one cut). By AI agents, Wed Nov 11 2026. No macro, syntax, notation, axiom, sorry.
-/
import Derived.Test.YtmgoaabeopnopaaChecked
import GoSem.Claim
import GoSem.ClaimJoined
import GoSem.ClaimMapViews
import Derived.JoinedTies
import Derived.KernelRfl
namespace Go.Proofs.Ytmgoaabeopnopaa
/- THE CELL 'sum', in the pinned program and in every row, IS THE sha256 OF THE DUMP (.gsa) THAT YtmgoaabeopnopaaProg.lean LOADS. Nothing in Lean hashes anything: it is a label: what it is worth is what the hold of that sum in a sandbox is worth. -/
noncomputable def Try.pinned : Pinned := { name := "ytmgoaabeopnopaa", sum := "e22aef6565b9dbc7a9fc4b6521a700cba0aa6a4d2e699bb0deb8158c7fabb69a", checked := Try.checked }
namespace Rows
def none {H : Type} : Left H := { results := [], args := [] }

/-- 'laws.FnExactQuotientBy': WHATEVER THE INPUT: true; the input reads as it did. -/
def fnExactQuotientBySpec : ChangeSpec := { name := "fnExactQuotientBy", fn := fun _ => fun
  | [d1, d2] => { results := [.lit (.bool true)], args := [d1, d2] }
  | _ => none }
def fnExactQuotientByRow : OpenClaim := { program := "ytmgoaabeopnopaa", sum := "e22aef6565b9dbc7a9fc4b6521a700cba0aa6a4d2e699bb0deb8158c7fabb69a", func := "loop.example/g01108/laws.FnExactQuotientBy", spec := "fnExactQuotientBy", plainKeys := false, apart := false }
def FnExactQuotientBySaid : Prop := fnExactQuotientByRow.holds Try.pinned (OpenSpec.ofChange fnExactQuotientBySpec)

/-- ITS FALSE NEIGHBOUR: 'it returns false'. Refute it at one input. -/
def fnExactQuotientByWrong : ChangeSpec := { name := "fnExactQuotientBy", fn := fun _ => fun
  | [d1, d2] => { results := [.lit (.bool false)], args := [d1, d2] }
  | _ => none }
def FnExactQuotientByWrongFalsely : Prop := fnExactQuotientByRow.holds Try.pinned (OpenSpec.ofChange fnExactQuotientByWrong)

/-- 'laws.FnExactCoveringOf': WHATEVER THE INPUT: true; the input reads as it did. -/
def fnExactCoveringOfSpec : ChangeSpec := { name := "fnExactCoveringOf", fn := fun _ => fun
  | [d1, d2] => { results := [.lit (.bool true)], args := [d1, d2] }
  | _ => none }
def fnExactCoveringOfRow : OpenClaim := { program := "ytmgoaabeopnopaa", sum := "e22aef6565b9dbc7a9fc4b6521a700cba0aa6a4d2e699bb0deb8158c7fabb69a", func := "loop.example/g01108/laws.FnExactCoveringOf", spec := "fnExactCoveringOf", plainKeys := false, apart := false }
def FnExactCoveringOfSaid : Prop := fnExactCoveringOfRow.holds Try.pinned (OpenSpec.ofChange fnExactCoveringOfSpec)

/-- ITS FALSE NEIGHBOUR: 'it returns false'. Refute it at one input. -/
def fnExactCoveringOfWrong : ChangeSpec := { name := "fnExactCoveringOf", fn := fun _ => fun
  | [d1, d2] => { results := [.lit (.bool false)], args := [d1, d2] }
  | _ => none }
def FnExactCoveringOfWrongFalsely : Prop := fnExactCoveringOfRow.holds Try.pinned (OpenSpec.ofChange fnExactCoveringOfWrong)

/-- 'laws.FnExactCountCoverings': WHATEVER THE INPUT: true; the input reads as it did. -/
def fnExactCountCoveringsSpec : ChangeSpec := { name := "fnExactCountCoverings", fn := fun _ => fun
  | [d1, d2] => { results := [.lit (.bool true)], args := [d1, d2] }
  | _ => none }
def fnExactCountCoveringsRow : OpenClaim := { program := "ytmgoaabeopnopaa", sum := "e22aef6565b9dbc7a9fc4b6521a700cba0aa6a4d2e699bb0deb8158c7fabb69a", func := "loop.example/g01108/laws.FnExactCountCoverings", spec := "fnExactCountCoverings", plainKeys := false, apart := false }
def FnExactCountCoveringsSaid : Prop := fnExactCountCoveringsRow.holds Try.pinned (OpenSpec.ofChange fnExactCountCoveringsSpec)

/-- ITS FALSE NEIGHBOUR: 'it returns false'. Refute it at one input. -/
def fnExactCountCoveringsWrong : ChangeSpec := { name := "fnExactCountCoverings", fn := fun _ => fun
  | [d1, d2] => { results := [.lit (.bool false)], args := [d1, d2] }
  | _ => none }
def FnExactCountCoveringsWrongFalsely : Prop := fnExactCountCoveringsRow.holds Try.pinned (OpenSpec.ofChange fnExactCountCoveringsWrong)

/-- 'laws.FnExactIsCovering': WHATEVER THE INPUT: true; the input reads as it did. -/
def fnExactIsCoveringSpec : ChangeSpec := { name := "fnExactIsCovering", fn := fun _ => fun
  | [d1, d2, d3] => { results := [.lit (.bool true)], args := [d1, d2, d3] }
  | _ => none }
def fnExactIsCoveringRow : OpenClaim := { program := "ytmgoaabeopnopaa", sum := "e22aef6565b9dbc7a9fc4b6521a700cba0aa6a4d2e699bb0deb8158c7fabb69a", func := "loop.example/g01108/laws.FnExactIsCovering", spec := "fnExactIsCovering", plainKeys := false, apart := false }
def FnExactIsCoveringSaid : Prop := fnExactIsCoveringRow.holds Try.pinned (OpenSpec.ofChange fnExactIsCoveringSpec)

/-- ITS FALSE NEIGHBOUR: 'it returns false'. Refute it at one input. -/
def fnExactIsCoveringWrong : ChangeSpec := { name := "fnExactIsCovering", fn := fun _ => fun
  | [d1, d2, d3] => { results := [.lit (.bool false)], args := [d1, d2, d3] }
  | _ => none }
def FnExactIsCoveringWrongFalsely : Prop := fnExactIsCoveringRow.holds Try.pinned (OpenSpec.ofChange fnExactIsCoveringWrong)

/-- 'laws.FnExactFibreOf': WHATEVER THE INPUT: true; the input reads as it did. -/
def fnExactFibreOfSpec : ChangeSpec := { name := "fnExactFibreOf", fn := fun _ => fun
  | [d1, d2, d3, d4] => { results := [.lit (.bool true)], args := [d1, d2, d3, d4] }
  | _ => none }
def fnExactFibreOfRow : OpenClaim := { program := "ytmgoaabeopnopaa", sum := "e22aef6565b9dbc7a9fc4b6521a700cba0aa6a4d2e699bb0deb8158c7fabb69a", func := "loop.example/g01108/laws.FnExactFibreOf", spec := "fnExactFibreOf", plainKeys := false, apart := false }
def FnExactFibreOfSaid : Prop := fnExactFibreOfRow.holds Try.pinned (OpenSpec.ofChange fnExactFibreOfSpec)

/-- ITS FALSE NEIGHBOUR: 'it returns false'. Refute it at one input. -/
def fnExactFibreOfWrong : ChangeSpec := { name := "fnExactFibreOf", fn := fun _ => fun
  | [d1, d2, d3, d4] => { results := [.lit (.bool false)], args := [d1, d2, d3, d4] }
  | _ => none }
def FnExactFibreOfWrongFalsely : Prop := fnExactFibreOfRow.holds Try.pinned (OpenSpec.ofChange fnExactFibreOfWrong)

/-- 'laws.FnExactDeckMoves': WHATEVER THE INPUT: true; the input reads as it did. -/
def fnExactDeckMovesSpec : ChangeSpec := { name := "fnExactDeckMoves", fn := fun _ => fun
  | [d1, d2, d3] => { results := [.lit (.bool true)], args := [d1, d2, d3] }
  | _ => none }
def fnExactDeckMovesRow : OpenClaim := { program := "ytmgoaabeopnopaa", sum := "e22aef6565b9dbc7a9fc4b6521a700cba0aa6a4d2e699bb0deb8158c7fabb69a", func := "loop.example/g01108/laws.FnExactDeckMoves", spec := "fnExactDeckMoves", plainKeys := false, apart := false }
def FnExactDeckMovesSaid : Prop := fnExactDeckMovesRow.holds Try.pinned (OpenSpec.ofChange fnExactDeckMovesSpec)

/-- ITS FALSE NEIGHBOUR: 'it returns false'. Refute it at one input. -/
def fnExactDeckMovesWrong : ChangeSpec := { name := "fnExactDeckMoves", fn := fun _ => fun
  | [d1, d2, d3] => { results := [.lit (.bool false)], args := [d1, d2, d3] }
  | _ => none }
def FnExactDeckMovesWrongFalsely : Prop := fnExactDeckMovesRow.holds Try.pinned (OpenSpec.ofChange fnExactDeckMovesWrong)

/-- 'laws.FnExactIsNormalCovering': WHATEVER THE INPUT: true; the input reads as it did. -/
def fnExactIsNormalCoveringSpec : ChangeSpec := { name := "fnExactIsNormalCovering", fn := fun _ => fun
  | [d1, d2, d3] => { results := [.lit (.bool true)], args := [d1, d2, d3] }
  | _ => none }
def fnExactIsNormalCoveringRow : OpenClaim := { program := "ytmgoaabeopnopaa", sum := "e22aef6565b9dbc7a9fc4b6521a700cba0aa6a4d2e699bb0deb8158c7fabb69a", func := "loop.example/g01108/laws.FnExactIsNormalCovering", spec := "fnExactIsNormalCovering", plainKeys := false, apart := false }
def FnExactIsNormalCoveringSaid : Prop := fnExactIsNormalCoveringRow.holds Try.pinned (OpenSpec.ofChange fnExactIsNormalCoveringSpec)

/-- ITS FALSE NEIGHBOUR: 'it returns false'. Refute it at one input. -/
def fnExactIsNormalCoveringWrong : ChangeSpec := { name := "fnExactIsNormalCovering", fn := fun _ => fun
  | [d1, d2, d3] => { results := [.lit (.bool false)], args := [d1, d2, d3] }
  | _ => none }
def FnExactIsNormalCoveringWrongFalsely : Prop := fnExactIsNormalCoveringRow.holds Try.pinned (OpenSpec.ofChange fnExactIsNormalCoveringWrong)

/-- 'laws.FnExactDoubleCover': WHATEVER THE INPUT: true; the input reads as it did. -/
def fnExactDoubleCoverSpec : ChangeSpec := { name := "fnExactDoubleCover", fn := fun _ => fun
  | [d] => { results := [.lit (.bool true)], args := [d] }
  | _ => none }
def fnExactDoubleCoverRow : OpenClaim := { program := "ytmgoaabeopnopaa", sum := "e22aef6565b9dbc7a9fc4b6521a700cba0aa6a4d2e699bb0deb8158c7fabb69a", func := "loop.example/g01108/laws.FnExactDoubleCover", spec := "fnExactDoubleCover", plainKeys := false, apart := false }
def FnExactDoubleCoverSaid : Prop := fnExactDoubleCoverRow.holds Try.pinned (OpenSpec.ofChange fnExactDoubleCoverSpec)

/-- ITS FALSE NEIGHBOUR: 'it returns false'. Refute it at one input. -/
def fnExactDoubleCoverWrong : ChangeSpec := { name := "fnExactDoubleCover", fn := fun _ => fun
  | [d] => { results := [.lit (.bool false)], args := [d] }
  | _ => none }
def FnExactDoubleCoverWrongFalsely : Prop := fnExactDoubleCoverRow.holds Try.pinned (OpenSpec.ofChange fnExactDoubleCoverWrong)

/-- 'laws.FnExactFaceMap': WHATEVER THE INPUT: true; the input reads as it did. -/
def fnExactFaceMapSpec : ChangeSpec := { name := "fnExactFaceMap", fn := fun _ => fun
  | [d1, d2, d3, d4] => { results := [.lit (.bool true)], args := [d1, d2, d3, d4] }
  | _ => none }
def fnExactFaceMapRow : OpenClaim := { program := "ytmgoaabeopnopaa", sum := "e22aef6565b9dbc7a9fc4b6521a700cba0aa6a4d2e699bb0deb8158c7fabb69a", func := "loop.example/g01108/laws.FnExactFaceMap", spec := "fnExactFaceMap", plainKeys := false, apart := false }
def FnExactFaceMapSaid : Prop := fnExactFaceMapRow.holds Try.pinned (OpenSpec.ofChange fnExactFaceMapSpec)

/-- ITS FALSE NEIGHBOUR: 'it returns false'. Refute it at one input. -/
def fnExactFaceMapWrong : ChangeSpec := { name := "fnExactFaceMap", fn := fun _ => fun
  | [d1, d2, d3, d4] => { results := [.lit (.bool false)], args := [d1, d2, d3, d4] }
  | _ => none }
def FnExactFaceMapWrongFalsely : Prop := fnExactFaceMapRow.holds Try.pinned (OpenSpec.ofChange fnExactFaceMapWrong)

/-- 'laws.FnDoubleCovers': WHATEVER THE INPUT: true; the input reads as it did. -/
def fnDoubleCoversSpec : ChangeSpec := { name := "fnDoubleCovers", fn := fun _ => fun
  | [d] => { results := [.lit (.bool true)], args := [d] }
  | _ => none }
def fnDoubleCoversRow : OpenClaim := { program := "ytmgoaabeopnopaa", sum := "e22aef6565b9dbc7a9fc4b6521a700cba0aa6a4d2e699bb0deb8158c7fabb69a", func := "loop.example/g01108/laws.FnDoubleCovers", spec := "fnDoubleCovers", plainKeys := false, apart := false }
def FnDoubleCoversSaid : Prop := fnDoubleCoversRow.holds Try.pinned (OpenSpec.ofChange fnDoubleCoversSpec)

/-- ITS FALSE NEIGHBOUR: 'it returns false'. Refute it at one input. -/
def fnDoubleCoversWrong : ChangeSpec := { name := "fnDoubleCovers", fn := fun _ => fun
  | [d] => { results := [.lit (.bool false)], args := [d] }
  | _ => none }
def FnDoubleCoversWrongFalsely : Prop := fnDoubleCoversRow.holds Try.pinned (OpenSpec.ofChange fnDoubleCoversWrong)

/-- 'laws.FnAutomorphisms': WHATEVER THE INPUT: true; the input reads as it did. -/
def fnAutomorphismsSpec : ChangeSpec := { name := "fnAutomorphisms", fn := fun _ => fun
  | [d] => { results := [.lit (.bool true)], args := [d] }
  | _ => none }
def fnAutomorphismsRow : OpenClaim := { program := "ytmgoaabeopnopaa", sum := "e22aef6565b9dbc7a9fc4b6521a700cba0aa6a4d2e699bb0deb8158c7fabb69a", func := "loop.example/g01108/laws.FnAutomorphisms", spec := "fnAutomorphisms", plainKeys := false, apart := false }
def FnAutomorphismsSaid : Prop := fnAutomorphismsRow.holds Try.pinned (OpenSpec.ofChange fnAutomorphismsSpec)

/-- ITS FALSE NEIGHBOUR: 'it returns false'. Refute it at one input. -/
def fnAutomorphismsWrong : ChangeSpec := { name := "fnAutomorphisms", fn := fun _ => fun
  | [d] => { results := [.lit (.bool false)], args := [d] }
  | _ => none }
def FnAutomorphismsWrongFalsely : Prop := fnAutomorphismsRow.holds Try.pinned (OpenSpec.ofChange fnAutomorphismsWrong)

/-- 'laws.FnStabilizers': WHATEVER THE INPUT: true; the input reads as it did. -/
def fnStabilizersSpec : ChangeSpec := { name := "fnStabilizers", fn := fun _ => fun
  | [d] => { results := [.lit (.bool true)], args := [d] }
  | _ => none }
def fnStabilizersRow : OpenClaim := { program := "ytmgoaabeopnopaa", sum := "e22aef6565b9dbc7a9fc4b6521a700cba0aa6a4d2e699bb0deb8158c7fabb69a", func := "loop.example/g01108/laws.FnStabilizers", spec := "fnStabilizers", plainKeys := false, apart := false }
def FnStabilizersSaid : Prop := fnStabilizersRow.holds Try.pinned (OpenSpec.ofChange fnStabilizersSpec)

/-- ITS FALSE NEIGHBOUR: 'it returns false'. Refute it at one input. -/
def fnStabilizersWrong : ChangeSpec := { name := "fnStabilizers", fn := fun _ => fun
  | [d] => { results := [.lit (.bool false)], args := [d] }
  | _ => none }
def FnStabilizersWrongFalsely : Prop := fnStabilizersRow.holds Try.pinned (OpenSpec.ofChange fnStabilizersWrong)

/-- 'laws.FnSymmetryTypes': WHATEVER THE INPUT: true; the input reads as it did. -/
def fnSymmetryTypesSpec : ChangeSpec := { name := "fnSymmetryTypes", fn := fun _ => fun
  | [d] => { results := [.lit (.bool true)], args := [d] }
  | _ => none }
def fnSymmetryTypesRow : OpenClaim := { program := "ytmgoaabeopnopaa", sum := "e22aef6565b9dbc7a9fc4b6521a700cba0aa6a4d2e699bb0deb8158c7fabb69a", func := "loop.example/g01108/laws.FnSymmetryTypes", spec := "fnSymmetryTypes", plainKeys := false, apart := false }
def FnSymmetryTypesSaid : Prop := fnSymmetryTypesRow.holds Try.pinned (OpenSpec.ofChange fnSymmetryTypesSpec)

/-- ITS FALSE NEIGHBOUR: 'it returns false'. Refute it at one input. -/
def fnSymmetryTypesWrong : ChangeSpec := { name := "fnSymmetryTypes", fn := fun _ => fun
  | [d] => { results := [.lit (.bool false)], args := [d] }
  | _ => none }
def FnSymmetryTypesWrongFalsely : Prop := fnSymmetryTypesRow.holds Try.pinned (OpenSpec.ofChange fnSymmetryTypesWrong)

/- THE SECOND FORM. 'bulk': how many values and letters a reading holds, each counted each time it is reached (what is shared counts as often as it is met; a slice's spare places count too). A statement '..UptoSaid' is the law's where the arguments, and the package variables that the reading takes, are together of bulk at most 1048576: NARROWER than '..Said'. Prove '..Said' where nothing that the law and all that it calls make is longer than what came in: it says more and counts as full. Else prove '..UptoSaid'. A law counts once. -/
mutual
def uptoBulk {H : Type} : DataW H → Nat
  | .lit (.string bytes) => bytes.length + 1
  | .lit _ => 1
  | .nil => 1
  | .ptr d => uptoBulk d + 1
  | .slice elems spare => uptoBulkAll elems + uptoBulkAll spare + 1
  | .agg parts => uptoBulkAll parts + 1
  | .iface _ d => uptoBulk d + 1
  | .map entries => uptoBulkEntries entries + 1
  | .held _ => 1
def uptoBulkAll {H : Type} : List (DataW H) → Nat
  | [] => 0
  | d :: r => uptoBulk d + uptoBulkAll r
def uptoBulkEntries {H : Type} : List (Lit × DataW H) → Nat
  | [] => 0
  | x :: r => uptoBulkEntry x + uptoBulkEntries r
def uptoBulkEntry {H : Type} : Lit × DataW H → Nat
  | (.string bytes, d) => bytes.length + uptoBulk d + 1
  | (_, d) => uptoBulk d + 1
 end
def uptoSmall : (H : Type) → List (DataW H) → Bool := fun _ ds => decide (uptoBulkAll ds ≤ 1048576)
def OpenSpec.upto (s : _root_.Go.ChangeSpec) : _root_.Go.OpenSpec := { _root_.Go.OpenSpec.ofChange s with cond := some uptoSmall }

/-- 'laws.FnExactQuotientBy', WHERE WHAT IT READS IS OF BULK AT MOST 1048576: true; the input reads as it did. -/
def fnExactQuotientByUptoRow : OpenClaim := { program := "ytmgoaabeopnopaa", sum := "e22aef6565b9dbc7a9fc4b6521a700cba0aa6a4d2e699bb0deb8158c7fabb69a", func := "loop.example/g01108/laws.FnExactQuotientBy", spec := "fnExactQuotientBy", plainKeys := false, apart := false, narrowed := true }
def FnExactQuotientByUptoSaid : Prop := fnExactQuotientByUptoRow.holds Try.pinned (OpenSpec.upto fnExactQuotientBySpec)

/-- 'laws.FnExactCoveringOf', WHERE WHAT IT READS IS OF BULK AT MOST 1048576: true; the input reads as it did. -/
def fnExactCoveringOfUptoRow : OpenClaim := { program := "ytmgoaabeopnopaa", sum := "e22aef6565b9dbc7a9fc4b6521a700cba0aa6a4d2e699bb0deb8158c7fabb69a", func := "loop.example/g01108/laws.FnExactCoveringOf", spec := "fnExactCoveringOf", plainKeys := false, apart := false, narrowed := true }
def FnExactCoveringOfUptoSaid : Prop := fnExactCoveringOfUptoRow.holds Try.pinned (OpenSpec.upto fnExactCoveringOfSpec)

/-- 'laws.FnExactCountCoverings', WHERE WHAT IT READS IS OF BULK AT MOST 1048576: true; the input reads as it did. -/
def fnExactCountCoveringsUptoRow : OpenClaim := { program := "ytmgoaabeopnopaa", sum := "e22aef6565b9dbc7a9fc4b6521a700cba0aa6a4d2e699bb0deb8158c7fabb69a", func := "loop.example/g01108/laws.FnExactCountCoverings", spec := "fnExactCountCoverings", plainKeys := false, apart := false, narrowed := true }
def FnExactCountCoveringsUptoSaid : Prop := fnExactCountCoveringsUptoRow.holds Try.pinned (OpenSpec.upto fnExactCountCoveringsSpec)

/-- 'laws.FnExactIsCovering', WHERE WHAT IT READS IS OF BULK AT MOST 1048576: true; the input reads as it did. -/
def fnExactIsCoveringUptoRow : OpenClaim := { program := "ytmgoaabeopnopaa", sum := "e22aef6565b9dbc7a9fc4b6521a700cba0aa6a4d2e699bb0deb8158c7fabb69a", func := "loop.example/g01108/laws.FnExactIsCovering", spec := "fnExactIsCovering", plainKeys := false, apart := false, narrowed := true }
def FnExactIsCoveringUptoSaid : Prop := fnExactIsCoveringUptoRow.holds Try.pinned (OpenSpec.upto fnExactIsCoveringSpec)

/-- 'laws.FnExactFibreOf', WHERE WHAT IT READS IS OF BULK AT MOST 1048576: true; the input reads as it did. -/
def fnExactFibreOfUptoRow : OpenClaim := { program := "ytmgoaabeopnopaa", sum := "e22aef6565b9dbc7a9fc4b6521a700cba0aa6a4d2e699bb0deb8158c7fabb69a", func := "loop.example/g01108/laws.FnExactFibreOf", spec := "fnExactFibreOf", plainKeys := false, apart := false, narrowed := true }
def FnExactFibreOfUptoSaid : Prop := fnExactFibreOfUptoRow.holds Try.pinned (OpenSpec.upto fnExactFibreOfSpec)

/-- 'laws.FnExactDeckMoves', WHERE WHAT IT READS IS OF BULK AT MOST 1048576: true; the input reads as it did. -/
def fnExactDeckMovesUptoRow : OpenClaim := { program := "ytmgoaabeopnopaa", sum := "e22aef6565b9dbc7a9fc4b6521a700cba0aa6a4d2e699bb0deb8158c7fabb69a", func := "loop.example/g01108/laws.FnExactDeckMoves", spec := "fnExactDeckMoves", plainKeys := false, apart := false, narrowed := true }
def FnExactDeckMovesUptoSaid : Prop := fnExactDeckMovesUptoRow.holds Try.pinned (OpenSpec.upto fnExactDeckMovesSpec)

/-- 'laws.FnExactIsNormalCovering', WHERE WHAT IT READS IS OF BULK AT MOST 1048576: true; the input reads as it did. -/
def fnExactIsNormalCoveringUptoRow : OpenClaim := { program := "ytmgoaabeopnopaa", sum := "e22aef6565b9dbc7a9fc4b6521a700cba0aa6a4d2e699bb0deb8158c7fabb69a", func := "loop.example/g01108/laws.FnExactIsNormalCovering", spec := "fnExactIsNormalCovering", plainKeys := false, apart := false, narrowed := true }
def FnExactIsNormalCoveringUptoSaid : Prop := fnExactIsNormalCoveringUptoRow.holds Try.pinned (OpenSpec.upto fnExactIsNormalCoveringSpec)

/-- 'laws.FnExactDoubleCover', WHERE WHAT IT READS IS OF BULK AT MOST 1048576: true; the input reads as it did. -/
def fnExactDoubleCoverUptoRow : OpenClaim := { program := "ytmgoaabeopnopaa", sum := "e22aef6565b9dbc7a9fc4b6521a700cba0aa6a4d2e699bb0deb8158c7fabb69a", func := "loop.example/g01108/laws.FnExactDoubleCover", spec := "fnExactDoubleCover", plainKeys := false, apart := false, narrowed := true }
def FnExactDoubleCoverUptoSaid : Prop := fnExactDoubleCoverUptoRow.holds Try.pinned (OpenSpec.upto fnExactDoubleCoverSpec)

/-- 'laws.FnExactFaceMap', WHERE WHAT IT READS IS OF BULK AT MOST 1048576: true; the input reads as it did. -/
def fnExactFaceMapUptoRow : OpenClaim := { program := "ytmgoaabeopnopaa", sum := "e22aef6565b9dbc7a9fc4b6521a700cba0aa6a4d2e699bb0deb8158c7fabb69a", func := "loop.example/g01108/laws.FnExactFaceMap", spec := "fnExactFaceMap", plainKeys := false, apart := false, narrowed := true }
def FnExactFaceMapUptoSaid : Prop := fnExactFaceMapUptoRow.holds Try.pinned (OpenSpec.upto fnExactFaceMapSpec)

/-- 'laws.FnDoubleCovers', WHERE WHAT IT READS IS OF BULK AT MOST 1048576: true; the input reads as it did. -/
def fnDoubleCoversUptoRow : OpenClaim := { program := "ytmgoaabeopnopaa", sum := "e22aef6565b9dbc7a9fc4b6521a700cba0aa6a4d2e699bb0deb8158c7fabb69a", func := "loop.example/g01108/laws.FnDoubleCovers", spec := "fnDoubleCovers", plainKeys := false, apart := false, narrowed := true }
def FnDoubleCoversUptoSaid : Prop := fnDoubleCoversUptoRow.holds Try.pinned (OpenSpec.upto fnDoubleCoversSpec)

/-- 'laws.FnAutomorphisms', WHERE WHAT IT READS IS OF BULK AT MOST 1048576: true; the input reads as it did. -/
def fnAutomorphismsUptoRow : OpenClaim := { program := "ytmgoaabeopnopaa", sum := "e22aef6565b9dbc7a9fc4b6521a700cba0aa6a4d2e699bb0deb8158c7fabb69a", func := "loop.example/g01108/laws.FnAutomorphisms", spec := "fnAutomorphisms", plainKeys := false, apart := false, narrowed := true }
def FnAutomorphismsUptoSaid : Prop := fnAutomorphismsUptoRow.holds Try.pinned (OpenSpec.upto fnAutomorphismsSpec)

/-- 'laws.FnStabilizers', WHERE WHAT IT READS IS OF BULK AT MOST 1048576: true; the input reads as it did. -/
def fnStabilizersUptoRow : OpenClaim := { program := "ytmgoaabeopnopaa", sum := "e22aef6565b9dbc7a9fc4b6521a700cba0aa6a4d2e699bb0deb8158c7fabb69a", func := "loop.example/g01108/laws.FnStabilizers", spec := "fnStabilizers", plainKeys := false, apart := false, narrowed := true }
def FnStabilizersUptoSaid : Prop := fnStabilizersUptoRow.holds Try.pinned (OpenSpec.upto fnStabilizersSpec)

/-- 'laws.FnSymmetryTypes', WHERE WHAT IT READS IS OF BULK AT MOST 1048576: true; the input reads as it did. -/
def fnSymmetryTypesUptoRow : OpenClaim := { program := "ytmgoaabeopnopaa", sum := "e22aef6565b9dbc7a9fc4b6521a700cba0aa6a4d2e699bb0deb8158c7fabb69a", func := "loop.example/g01108/laws.FnSymmetryTypes", spec := "fnSymmetryTypes", plainKeys := false, apart := false, narrowed := true }
def FnSymmetryTypesUptoSaid : Prop := fnSymmetryTypesUptoRow.holds Try.pinned (OpenSpec.upto fnSymmetryTypesSpec)

end Rows
end Go.Proofs.Ytmgoaabeopnopaa
