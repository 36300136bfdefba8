/-
  No cell of these rows narrows 'for every input' (looked for: loops, veiled, ifaces, maps, wideKeys, modest, calm, conditions, laid).
  DERIVED. THE GIVEN ROWS OF THIS SEAT. 13 by the template 'for every input the law returns true; each argument reads behind the call as it read before'; 0 by the template 'total and deterministic' (their statements: YtckmmgepoccopaaTotals.lean).
  GIVEN WITH THE SEED: the statements are not yours to turn. If you find one false, say at which input.
  Laid BY PROGRAM, IN A SANDBOX (cutbox-rows.mjs): the forced cells as the released guide's own fill.sh prints them over the translation b4deeb340f596d01… (all of the seat's roots in one cut). By AI agents, Wed Nov 11 2026. No macro, syntax, notation, axiom, sorry.
-/
import Derived.Test.YtckmmgepoccopaaChecked
import GoSem.Claim
import GoSem.ClaimJoined
import GoSem.ClaimMapViews
import Derived.JoinedTies
import Derived.KernelRfl
namespace Go.Proofs.Ytckmmgepoccopaa
/- THE CELL 'sum', in the pinned program and in every row, IS THE sha256 OF THE DUMP (.gsa) THAT YtckmmgepoccopaaProg.lean LOADS. Nothing in Lean hashes anything: it is a label: what it is worth is what the hold of that sum in a sandbox is worth. -/
noncomputable def Try.pinned : Pinned := { name := "ytckmmgepoccopaa", sum := "b4deeb340f596d01529215124c1027b165b6410c6ed7610a1f00a41e3a0ff9c1", checked := Try.checked }
namespace Rows
def none {H : Type} : Left H := { results := [], args := [] }

/-- 'laws.FnFaces': WHATEVER THE INPUT: true; the input reads as it did. -/
def fnFacesSpec : ChangeSpec := { name := "fnFaces", fn := fun _ => fun
  | [d] => { results := [.lit (.bool true)], args := [d] }
  | _ => none }
def fnFacesRow : OpenClaim := { program := "ytckmmgepoccopaa", sum := "b4deeb340f596d01529215124c1027b165b6410c6ed7610a1f00a41e3a0ff9c1", func := "loop.example/g01108/laws.FnFaces", spec := "fnFaces", apart := false }
def FnFacesSaid : Prop := fnFacesRow.holds Try.pinned (OpenSpec.ofChange fnFacesSpec)

/-- ITS FALSE NEIGHBOUR: 'it returns false'. Refute it at one input. -/
def fnFacesWrong : ChangeSpec := { name := "fnFaces", fn := fun _ => fun
  | [d] => { results := [.lit (.bool false)], args := [d] }
  | _ => none }
def FnFacesWrongFalsely : Prop := fnFacesRow.holds Try.pinned (OpenSpec.ofChange fnFacesWrong)

/-- 'laws.FnPaths': WHATEVER THE INPUT: true; the input reads as it did. -/
def fnPathsSpec : ChangeSpec := { name := "fnPaths", fn := fun _ => fun
  | [d] => { results := [.lit (.bool true)], args := [d] }
  | _ => none }
def fnPathsRow : OpenClaim := { program := "ytckmmgepoccopaa", sum := "b4deeb340f596d01529215124c1027b165b6410c6ed7610a1f00a41e3a0ff9c1", func := "loop.example/g01108/laws.FnPaths", spec := "fnPaths", unfollowed := true, recurses := true, apart := false }
def FnPathsSaid : Prop := fnPathsRow.holds Try.pinned (OpenSpec.ofChange fnPathsSpec)

/-- ITS FALSE NEIGHBOUR: 'it returns false'. Refute it at one input. -/
def fnPathsWrong : ChangeSpec := { name := "fnPaths", fn := fun _ => fun
  | [d] => { results := [.lit (.bool false)], args := [d] }
  | _ => none }
def FnPathsWrongFalsely : Prop := fnPathsRow.holds Try.pinned (OpenSpec.ofChange fnPathsWrong)

/-- 'laws.FnColourings': WHATEVER THE INPUT: true; the input reads as it did. -/
def fnColouringsSpec : ChangeSpec := { name := "fnColourings", fn := fun _ => fun
  | [d] => { results := [.lit (.bool true)], args := [d] }
  | _ => none }
def fnColouringsRow : OpenClaim := { program := "ytckmmgepoccopaa", sum := "b4deeb340f596d01529215124c1027b165b6410c6ed7610a1f00a41e3a0ff9c1", func := "loop.example/g01108/laws.FnColourings", spec := "fnColourings", apart := false }
def FnColouringsSaid : Prop := fnColouringsRow.holds Try.pinned (OpenSpec.ofChange fnColouringsSpec)

/-- ITS FALSE NEIGHBOUR: 'it returns false'. Refute it at one input. -/
def fnColouringsWrong : ChangeSpec := { name := "fnColourings", fn := fun _ => fun
  | [d] => { results := [.lit (.bool false)], args := [d] }
  | _ => none }
def FnColouringsWrongFalsely : Prop := fnColouringsRow.holds Try.pinned (OpenSpec.ofChange fnColouringsWrong)

/-- 'laws.FnSections': WHATEVER THE INPUT: true; the input reads as it did. -/
def fnSectionsSpec : ChangeSpec := { name := "fnSections", fn := fun _ => fun
  | [d] => { results := [.lit (.bool true)], args := [d] }
  | _ => none }
def fnSectionsRow : OpenClaim := { program := "ytckmmgepoccopaa", sum := "b4deeb340f596d01529215124c1027b165b6410c6ed7610a1f00a41e3a0ff9c1", func := "loop.example/g01108/laws.FnSections", spec := "fnSections", recurses := true, apart := false }
def FnSectionsSaid : Prop := fnSectionsRow.holds Try.pinned (OpenSpec.ofChange fnSectionsSpec)

/-- ITS FALSE NEIGHBOUR: 'it returns false'. Refute it at one input. -/
def fnSectionsWrong : ChangeSpec := { name := "fnSections", fn := fun _ => fun
  | [d] => { results := [.lit (.bool false)], args := [d] }
  | _ => none }
def FnSectionsWrongFalsely : Prop := fnSectionsRow.holds Try.pinned (OpenSpec.ofChange fnSectionsWrong)

/-- 'laws.FnFaceSections': WHATEVER THE INPUT: true; the input reads as it did. -/
def fnFaceSectionsSpec : ChangeSpec := { name := "fnFaceSections", fn := fun _ => fun
  | [d] => { results := [.lit (.bool true)], args := [d] }
  | _ => none }
def fnFaceSectionsRow : OpenClaim := { program := "ytckmmgepoccopaa", sum := "b4deeb340f596d01529215124c1027b165b6410c6ed7610a1f00a41e3a0ff9c1", func := "loop.example/g01108/laws.FnFaceSections", spec := "fnFaceSections", apart := false }
def FnFaceSectionsSaid : Prop := fnFaceSectionsRow.holds Try.pinned (OpenSpec.ofChange fnFaceSectionsSpec)

/-- ITS FALSE NEIGHBOUR: 'it returns false'. Refute it at one input. -/
def fnFaceSectionsWrong : ChangeSpec := { name := "fnFaceSections", fn := fun _ => fun
  | [d] => { results := [.lit (.bool false)], args := [d] }
  | _ => none }
def FnFaceSectionsWrongFalsely : Prop := fnFaceSectionsRow.holds Try.pinned (OpenSpec.ofChange fnFaceSectionsWrong)

/-- 'laws.FnExactFlagsOf': WHATEVER THE INPUT: true; the input reads as it did. -/
def fnExactFlagsOfSpec : ChangeSpec := { name := "fnExactFlagsOf", fn := fun _ => fun
  | [d] => { results := [.lit (.bool true)], args := [d] }
  | _ => none }
def fnExactFlagsOfRow : OpenClaim := { program := "ytckmmgepoccopaa", sum := "b4deeb340f596d01529215124c1027b165b6410c6ed7610a1f00a41e3a0ff9c1", func := "loop.example/g01108/laws.FnExactFlagsOf", spec := "fnExactFlagsOf", unfollowed := true, recurses := true, apart := false }
def FnExactFlagsOfSaid : Prop := fnExactFlagsOfRow.holds Try.pinned (OpenSpec.ofChange fnExactFlagsOfSpec)

/-- ITS FALSE NEIGHBOUR: 'it returns false'. Refute it at one input. -/
def fnExactFlagsOfWrong : ChangeSpec := { name := "fnExactFlagsOf", fn := fun _ => fun
  | [d] => { results := [.lit (.bool false)], args := [d] }
  | _ => none }
def FnExactFlagsOfWrongFalsely : Prop := fnExactFlagsOfRow.holds Try.pinned (OpenSpec.ofChange fnExactFlagsOfWrong)

/-- 'laws.FnExactSectionAt': WHATEVER THE INPUT: true; the input reads as it did. -/
def fnExactSectionAtSpec : ChangeSpec := { name := "fnExactSectionAt", fn := fun _ => fun
  | [d1, d2, d3, d4] => { results := [.lit (.bool true)], args := [d1, d2, d3, d4] }
  | _ => none }
def fnExactSectionAtRow : OpenClaim := { program := "ytckmmgepoccopaa", sum := "b4deeb340f596d01529215124c1027b165b6410c6ed7610a1f00a41e3a0ff9c1", func := "loop.example/g01108/laws.FnExactSectionAt", spec := "fnExactSectionAt", apart := false }
def FnExactSectionAtSaid : Prop := fnExactSectionAtRow.holds Try.pinned (OpenSpec.ofChange fnExactSectionAtSpec)

/-- ITS FALSE NEIGHBOUR: 'it returns false'. Refute it at one input. -/
def fnExactSectionAtWrong : ChangeSpec := { name := "fnExactSectionAt", fn := fun _ => fun
  | [d1, d2, d3, d4] => { results := [.lit (.bool false)], args := [d1, d2, d3, d4] }
  | _ => none }
def FnExactSectionAtWrongFalsely : Prop := fnExactSectionAtRow.holds Try.pinned (OpenSpec.ofChange fnExactSectionAtWrong)

/-- 'laws.FnExactFacetAt': WHATEVER THE INPUT: true; the input reads as it did. -/
def fnExactFacetAtSpec : ChangeSpec := { name := "fnExactFacetAt", fn := fun _ => fun
  | [d1, d2] => { results := [.lit (.bool true)], args := [d1, d2] }
  | _ => none }
def fnExactFacetAtRow : OpenClaim := { program := "ytckmmgepoccopaa", sum := "b4deeb340f596d01529215124c1027b165b6410c6ed7610a1f00a41e3a0ff9c1", func := "loop.example/g01108/laws.FnExactFacetAt", spec := "fnExactFacetAt", apart := false }
def FnExactFacetAtSaid : Prop := fnExactFacetAtRow.holds Try.pinned (OpenSpec.ofChange fnExactFacetAtSpec)

/-- ITS FALSE NEIGHBOUR: 'it returns false'. Refute it at one input. -/
def fnExactFacetAtWrong : ChangeSpec := { name := "fnExactFacetAt", fn := fun _ => fun
  | [d1, d2] => { results := [.lit (.bool false)], args := [d1, d2] }
  | _ => none }
def FnExactFacetAtWrongFalsely : Prop := fnExactFacetAtRow.holds Try.pinned (OpenSpec.ofChange fnExactFacetAtWrong)

/-- 'laws.FnExactVertexFigureAt': WHATEVER THE INPUT: true; the input reads as it did. -/
def fnExactVertexFigureAtSpec : ChangeSpec := { name := "fnExactVertexFigureAt", fn := fun _ => fun
  | [d1, d2] => { results := [.lit (.bool true)], args := [d1, d2] }
  | _ => none }
def fnExactVertexFigureAtRow : OpenClaim := { program := "ytckmmgepoccopaa", sum := "b4deeb340f596d01529215124c1027b165b6410c6ed7610a1f00a41e3a0ff9c1", func := "loop.example/g01108/laws.FnExactVertexFigureAt", spec := "fnExactVertexFigureAt", apart := false }
def FnExactVertexFigureAtSaid : Prop := fnExactVertexFigureAtRow.holds Try.pinned (OpenSpec.ofChange fnExactVertexFigureAtSpec)

/-- ITS FALSE NEIGHBOUR: 'it returns false'. Refute it at one input. -/
def fnExactVertexFigureAtWrong : ChangeSpec := { name := "fnExactVertexFigureAt", fn := fun _ => fun
  | [d1, d2] => { results := [.lit (.bool false)], args := [d1, d2] }
  | _ => none }
def FnExactVertexFigureAtWrongFalsely : Prop := fnExactVertexFigureAtRow.holds Try.pinned (OpenSpec.ofChange fnExactVertexFigureAtWrong)

/-- 'laws.FnExactFaceAsManiplex': WHATEVER THE INPUT: true; the input reads as it did. -/
def fnExactFaceAsManiplexSpec : ChangeSpec := { name := "fnExactFaceAsManiplex", fn := fun _ => fun
  | [d1, d2, d3] => { results := [.lit (.bool true)], args := [d1, d2, d3] }
  | _ => none }
def fnExactFaceAsManiplexRow : OpenClaim := { program := "ytckmmgepoccopaa", sum := "b4deeb340f596d01529215124c1027b165b6410c6ed7610a1f00a41e3a0ff9c1", func := "loop.example/g01108/laws.FnExactFaceAsManiplex", spec := "fnExactFaceAsManiplex", apart := false }
def FnExactFaceAsManiplexSaid : Prop := fnExactFaceAsManiplexRow.holds Try.pinned (OpenSpec.ofChange fnExactFaceAsManiplexSpec)

/-- ITS FALSE NEIGHBOUR: 'it returns false'. Refute it at one input. -/
def fnExactFaceAsManiplexWrong : ChangeSpec := { name := "fnExactFaceAsManiplex", fn := fun _ => fun
  | [d1, d2, d3] => { results := [.lit (.bool false)], args := [d1, d2, d3] }
  | _ => none }
def FnExactFaceAsManiplexWrongFalsely : Prop := fnExactFaceAsManiplexRow.holds Try.pinned (OpenSpec.ofChange fnExactFaceAsManiplexWrong)

/-- 'laws.FnExactCofaceAsManiplex': WHATEVER THE INPUT: true; the input reads as it did. -/
def fnExactCofaceAsManiplexSpec : ChangeSpec := { name := "fnExactCofaceAsManiplex", fn := fun _ => fun
  | [d1, d2, d3] => { results := [.lit (.bool true)], args := [d1, d2, d3] }
  | _ => none }
def fnExactCofaceAsManiplexRow : OpenClaim := { program := "ytckmmgepoccopaa", sum := "b4deeb340f596d01529215124c1027b165b6410c6ed7610a1f00a41e3a0ff9c1", func := "loop.example/g01108/laws.FnExactCofaceAsManiplex", spec := "fnExactCofaceAsManiplex", apart := false }
def FnExactCofaceAsManiplexSaid : Prop := fnExactCofaceAsManiplexRow.holds Try.pinned (OpenSpec.ofChange fnExactCofaceAsManiplexSpec)

/-- ITS FALSE NEIGHBOUR: 'it returns false'. Refute it at one input. -/
def fnExactCofaceAsManiplexWrong : ChangeSpec := { name := "fnExactCofaceAsManiplex", fn := fun _ => fun
  | [d1, d2, d3] => { results := [.lit (.bool false)], args := [d1, d2, d3] }
  | _ => none }
def FnExactCofaceAsManiplexWrongFalsely : Prop := fnExactCofaceAsManiplexRow.holds Try.pinned (OpenSpec.ofChange fnExactCofaceAsManiplexWrong)

/-- 'laws.FnExactIsLocallySpherical': WHATEVER THE INPUT: true; the input reads as it did. -/
def fnExactIsLocallySphericalSpec : ChangeSpec := { name := "fnExactIsLocallySpherical", fn := fun _ => fun
  | [d] => { results := [.lit (.bool true)], args := [d] }
  | _ => none }
def fnExactIsLocallySphericalRow : OpenClaim := { program := "ytckmmgepoccopaa", sum := "b4deeb340f596d01529215124c1027b165b6410c6ed7610a1f00a41e3a0ff9c1", func := "loop.example/g01108/laws.FnExactIsLocallySpherical", spec := "fnExactIsLocallySpherical", apart := false }
def FnExactIsLocallySphericalSaid : Prop := fnExactIsLocallySphericalRow.holds Try.pinned (OpenSpec.ofChange fnExactIsLocallySphericalSpec)

/-- ITS FALSE NEIGHBOUR: 'it returns false'. Refute it at one input. -/
def fnExactIsLocallySphericalWrong : ChangeSpec := { name := "fnExactIsLocallySpherical", fn := fun _ => fun
  | [d] => { results := [.lit (.bool false)], args := [d] }
  | _ => none }
def FnExactIsLocallySphericalWrongFalsely : Prop := fnExactIsLocallySphericalRow.holds Try.pinned (OpenSpec.ofChange fnExactIsLocallySphericalWrong)

/-- 'laws.FnExactSmallestPolygons': WHATEVER THE INPUT: true; the input reads as it did. -/
def fnExactSmallestPolygonsSpec : ChangeSpec := { name := "fnExactSmallestPolygons", fn := fun _ => fun
  | [d] => { results := [.lit (.bool true)], args := [d] }
  | _ => none }
def fnExactSmallestPolygonsRow : OpenClaim := { program := "ytckmmgepoccopaa", sum := "b4deeb340f596d01529215124c1027b165b6410c6ed7610a1f00a41e3a0ff9c1", func := "loop.example/g01108/laws.FnExactSmallestPolygons", spec := "fnExactSmallestPolygons", recurses := true, apart := false }
def FnExactSmallestPolygonsSaid : Prop := fnExactSmallestPolygonsRow.holds Try.pinned (OpenSpec.ofChange fnExactSmallestPolygonsSpec)

/-- ITS FALSE NEIGHBOUR: 'it returns false'. Refute it at one input. -/
def fnExactSmallestPolygonsWrong : ChangeSpec := { name := "fnExactSmallestPolygons", fn := fun _ => fun
  | [d] => { results := [.lit (.bool false)], args := [d] }
  | _ => none }
def FnExactSmallestPolygonsWrongFalsely : Prop := fnExactSmallestPolygonsRow.holds Try.pinned (OpenSpec.ofChange fnExactSmallestPolygonsWrong)

/- THE SECOND FORM. 'bulk': how many values and letters a reading holds, each counted each time it is reached (what is shared counts as often as it is met; a slice's spare places count too). A statement '..UptoSaid' is the law's where the arguments, and the package variables that the reading takes, are together of bulk at most 1048576: NARROWER than '..Said'. Prove '..Said' where nothing that the law and all that it calls make is longer than what came in: it says more and counts as full. Else prove '..UptoSaid'. A law counts once. -/
mutual
def uptoBulk {H : Type} : DataW H → Nat
  | .lit (.string bytes) => bytes.length + 1
  | .lit _ => 1
  | .nil => 1
  | .ptr d => uptoBulk d + 1
  | .slice elems spare => uptoBulkAll elems + uptoBulkAll spare + 1
  | .agg parts => uptoBulkAll parts + 1
  | .iface _ d => uptoBulk d + 1
  | .map entries => uptoBulkEntries entries + 1
  | .held _ => 1
def uptoBulkAll {H : Type} : List (DataW H) → Nat
  | [] => 0
  | d :: r => uptoBulk d + uptoBulkAll r
def uptoBulkEntries {H : Type} : List (Lit × DataW H) → Nat
  | [] => 0
  | x :: r => uptoBulkEntry x + uptoBulkEntries r
def uptoBulkEntry {H : Type} : Lit × DataW H → Nat
  | (.string bytes, d) => bytes.length + uptoBulk d + 1
  | (_, d) => uptoBulk d + 1
 end
def uptoSmall : (H : Type) → List (DataW H) → Bool := fun _ ds => decide (uptoBulkAll ds ≤ 1048576)
def OpenSpec.upto (s : _root_.Go.ChangeSpec) : _root_.Go.OpenSpec := { _root_.Go.OpenSpec.ofChange s with cond := some uptoSmall }

/-- 'laws.FnFaces', WHERE WHAT IT READS IS OF BULK AT MOST 1048576: true; the input reads as it did. -/
def fnFacesUptoRow : OpenClaim := { program := "ytckmmgepoccopaa", sum := "b4deeb340f596d01529215124c1027b165b6410c6ed7610a1f00a41e3a0ff9c1", func := "loop.example/g01108/laws.FnFaces", spec := "fnFaces", apart := false, narrowed := true }
def FnFacesUptoSaid : Prop := fnFacesUptoRow.holds Try.pinned (OpenSpec.upto fnFacesSpec)

/-- 'laws.FnPaths', WHERE WHAT IT READS IS OF BULK AT MOST 1048576: true; the input reads as it did. -/
def fnPathsUptoRow : OpenClaim := { program := "ytckmmgepoccopaa", sum := "b4deeb340f596d01529215124c1027b165b6410c6ed7610a1f00a41e3a0ff9c1", func := "loop.example/g01108/laws.FnPaths", spec := "fnPaths", unfollowed := true, recurses := true, apart := false, narrowed := true }
def FnPathsUptoSaid : Prop := fnPathsUptoRow.holds Try.pinned (OpenSpec.upto fnPathsSpec)

/-- 'laws.FnColourings', WHERE WHAT IT READS IS OF BULK AT MOST 1048576: true; the input reads as it did. -/
def fnColouringsUptoRow : OpenClaim := { program := "ytckmmgepoccopaa", sum := "b4deeb340f596d01529215124c1027b165b6410c6ed7610a1f00a41e3a0ff9c1", func := "loop.example/g01108/laws.FnColourings", spec := "fnColourings", apart := false, narrowed := true }
def FnColouringsUptoSaid : Prop := fnColouringsUptoRow.holds Try.pinned (OpenSpec.upto fnColouringsSpec)

/-- 'laws.FnSections', WHERE WHAT IT READS IS OF BULK AT MOST 1048576: true; the input reads as it did. -/
def fnSectionsUptoRow : OpenClaim := { program := "ytckmmgepoccopaa", sum := "b4deeb340f596d01529215124c1027b165b6410c6ed7610a1f00a41e3a0ff9c1", func := "loop.example/g01108/laws.FnSections", spec := "fnSections", recurses := true, apart := false, narrowed := true }
def FnSectionsUptoSaid : Prop := fnSectionsUptoRow.holds Try.pinned (OpenSpec.upto fnSectionsSpec)

/-- 'laws.FnFaceSections', WHERE WHAT IT READS IS OF BULK AT MOST 1048576: true; the input reads as it did. -/
def fnFaceSectionsUptoRow : OpenClaim := { program := "ytckmmgepoccopaa", sum := "b4deeb340f596d01529215124c1027b165b6410c6ed7610a1f00a41e3a0ff9c1", func := "loop.example/g01108/laws.FnFaceSections", spec := "fnFaceSections", apart := false, narrowed := true }
def FnFaceSectionsUptoSaid : Prop := fnFaceSectionsUptoRow.holds Try.pinned (OpenSpec.upto fnFaceSectionsSpec)

/-- 'laws.FnExactFlagsOf', WHERE WHAT IT READS IS OF BULK AT MOST 1048576: true; the input reads as it did. -/
def fnExactFlagsOfUptoRow : OpenClaim := { program := "ytckmmgepoccopaa", sum := "b4deeb340f596d01529215124c1027b165b6410c6ed7610a1f00a41e3a0ff9c1", func := "loop.example/g01108/laws.FnExactFlagsOf", spec := "fnExactFlagsOf", unfollowed := true, recurses := true, apart := false, narrowed := true }
def FnExactFlagsOfUptoSaid : Prop := fnExactFlagsOfUptoRow.holds Try.pinned (OpenSpec.upto fnExactFlagsOfSpec)

/-- 'laws.FnExactSectionAt', WHERE WHAT IT READS IS OF BULK AT MOST 1048576: true; the input reads as it did. -/
def fnExactSectionAtUptoRow : OpenClaim := { program := "ytckmmgepoccopaa", sum := "b4deeb340f596d01529215124c1027b165b6410c6ed7610a1f00a41e3a0ff9c1", func := "loop.example/g01108/laws.FnExactSectionAt", spec := "fnExactSectionAt", apart := false, narrowed := true }
def FnExactSectionAtUptoSaid : Prop := fnExactSectionAtUptoRow.holds Try.pinned (OpenSpec.upto fnExactSectionAtSpec)

/-- 'laws.FnExactFacetAt', WHERE WHAT IT READS IS OF BULK AT MOST 1048576: true; the input reads as it did. -/
def fnExactFacetAtUptoRow : OpenClaim := { program := "ytckmmgepoccopaa", sum := "b4deeb340f596d01529215124c1027b165b6410c6ed7610a1f00a41e3a0ff9c1", func := "loop.example/g01108/laws.FnExactFacetAt", spec := "fnExactFacetAt", apart := false, narrowed := true }
def FnExactFacetAtUptoSaid : Prop := fnExactFacetAtUptoRow.holds Try.pinned (OpenSpec.upto fnExactFacetAtSpec)

/-- 'laws.FnExactVertexFigureAt', WHERE WHAT IT READS IS OF BULK AT MOST 1048576: true; the input reads as it did. -/
def fnExactVertexFigureAtUptoRow : OpenClaim := { program := "ytckmmgepoccopaa", sum := "b4deeb340f596d01529215124c1027b165b6410c6ed7610a1f00a41e3a0ff9c1", func := "loop.example/g01108/laws.FnExactVertexFigureAt", spec := "fnExactVertexFigureAt", apart := false, narrowed := true }
def FnExactVertexFigureAtUptoSaid : Prop := fnExactVertexFigureAtUptoRow.holds Try.pinned (OpenSpec.upto fnExactVertexFigureAtSpec)

/-- 'laws.FnExactFaceAsManiplex', WHERE WHAT IT READS IS OF BULK AT MOST 1048576: true; the input reads as it did. -/
def fnExactFaceAsManiplexUptoRow : OpenClaim := { program := "ytckmmgepoccopaa", sum := "b4deeb340f596d01529215124c1027b165b6410c6ed7610a1f00a41e3a0ff9c1", func := "loop.example/g01108/laws.FnExactFaceAsManiplex", spec := "fnExactFaceAsManiplex", apart := false, narrowed := true }
def FnExactFaceAsManiplexUptoSaid : Prop := fnExactFaceAsManiplexUptoRow.holds Try.pinned (OpenSpec.upto fnExactFaceAsManiplexSpec)

/-- 'laws.FnExactCofaceAsManiplex', WHERE WHAT IT READS IS OF BULK AT MOST 1048576: true; the input reads as it did. -/
def fnExactCofaceAsManiplexUptoRow : OpenClaim := { program := "ytckmmgepoccopaa", sum := "b4deeb340f596d01529215124c1027b165b6410c6ed7610a1f00a41e3a0ff9c1", func := "loop.example/g01108/laws.FnExactCofaceAsManiplex", spec := "fnExactCofaceAsManiplex", apart := false, narrowed := true }
def FnExactCofaceAsManiplexUptoSaid : Prop := fnExactCofaceAsManiplexUptoRow.holds Try.pinned (OpenSpec.upto fnExactCofaceAsManiplexSpec)

/-- 'laws.FnExactIsLocallySpherical', WHERE WHAT IT READS IS OF BULK AT MOST 1048576: true; the input reads as it did. -/
def fnExactIsLocallySphericalUptoRow : OpenClaim := { program := "ytckmmgepoccopaa", sum := "b4deeb340f596d01529215124c1027b165b6410c6ed7610a1f00a41e3a0ff9c1", func := "loop.example/g01108/laws.FnExactIsLocallySpherical", spec := "fnExactIsLocallySpherical", apart := false, narrowed := true }
def FnExactIsLocallySphericalUptoSaid : Prop := fnExactIsLocallySphericalUptoRow.holds Try.pinned (OpenSpec.upto fnExactIsLocallySphericalSpec)

/-- 'laws.FnExactSmallestPolygons', WHERE WHAT IT READS IS OF BULK AT MOST 1048576: true; the input reads as it did. -/
def fnExactSmallestPolygonsUptoRow : OpenClaim := { program := "ytckmmgepoccopaa", sum := "b4deeb340f596d01529215124c1027b165b6410c6ed7610a1f00a41e3a0ff9c1", func := "loop.example/g01108/laws.FnExactSmallestPolygons", spec := "fnExactSmallestPolygons", recurses := true, apart := false, narrowed := true }
def FnExactSmallestPolygonsUptoSaid : Prop := fnExactSmallestPolygonsUptoRow.holds Try.pinned (OpenSpec.upto fnExactSmallestPolygonsSpec)

end Rows
end Go.Proofs.Ytckmmgepoccopaa
