/-
  No cell of these rows narrows 'for every input' (looked for: loops, veiled, ifaces, maps, wideKeys, modest, calm, conditions, laid).
  DERIVED. THE GIVEN ROWS OF THIS SEAT. 16 by the template 'for every input the law returns true; each argument reads behind the call as it read before'; 0 by the template 'total and deterministic' (their statements: YtbjfeogkdfmjpaaTotals.lean).
  GIVEN WITH THE SEED: the statements are not yours to turn. If you find one false, say at which input.
  Laid BY PROGRAM, IN A SANDBOX (cutbox-rows.mjs): the forced cells as the released guide's own fill.sh prints them over the translation 8f456a8a90622dfc… (all of the seat's roots in one cut). By AI agents, Wed Nov 11 2026. No macro, syntax, notation, axiom, sorry.
-/
import Derived.Test.YtbjfeogkdfmjpaaChecked
import GoSem.Claim
import GoSem.ClaimJoined
import GoSem.ClaimMapViews
import Derived.JoinedTies
import Derived.KernelRfl
namespace Go.Proofs.Ytbjfeogkdfmjpaa
/- THE CELL 'sum', in the pinned program and in every row, IS THE sha256 OF THE DUMP (.gsa) THAT YtbjfeogkdfmjpaaProg.lean LOADS. Nothing in Lean hashes anything: it is a label: what it is worth is what the hold of that sum in a sandbox is worth. -/
noncomputable def Try.pinned : Pinned := { name := "ytbjfeogkdfmjpaa", sum := "8f456a8a90622dfca3d5c7f2e563fb599b3b16597ff7d25fd26f7a6e926679b3", checked := Try.checked }
namespace Rows
def none {H : Type} : Left H := { results := [], args := [] }

/-- 'laws.FnPermutationOrders': WHATEVER THE INPUT: true; the input reads as it did. -/
def fnPermutationOrdersSpec : ChangeSpec := { name := "fnPermutationOrders", fn := fun _ => fun
  | [d] => { results := [.lit (.bool true)], args := [d] }
  | _ => none }
def fnPermutationOrdersRow : OpenClaim := { program := "ytbjfeogkdfmjpaa", sum := "8f456a8a90622dfca3d5c7f2e563fb599b3b16597ff7d25fd26f7a6e926679b3", func := "loop.example/g01108/laws.FnPermutationOrders", spec := "fnPermutationOrders", recurses := true, apart := false }
def FnPermutationOrdersSaid : Prop := fnPermutationOrdersRow.holds Try.pinned (OpenSpec.ofChange fnPermutationOrdersSpec)

/-- ITS FALSE NEIGHBOUR: 'it returns false'. Refute it at one input. -/
def fnPermutationOrdersWrong : ChangeSpec := { name := "fnPermutationOrders", fn := fun _ => fun
  | [d] => { results := [.lit (.bool false)], args := [d] }
  | _ => none }
def FnPermutationOrdersWrongFalsely : Prop := fnPermutationOrdersRow.holds Try.pinned (OpenSpec.ofChange fnPermutationOrdersWrong)

/-- 'laws.FnConjugates': WHATEVER THE INPUT: true; the input reads as it did. -/
def fnConjugatesSpec : ChangeSpec := { name := "fnConjugates", fn := fun _ => fun
  | [d] => { results := [.lit (.bool true)], args := [d] }
  | _ => none }
def fnConjugatesRow : OpenClaim := { program := "ytbjfeogkdfmjpaa", sum := "8f456a8a90622dfca3d5c7f2e563fb599b3b16597ff7d25fd26f7a6e926679b3", func := "loop.example/g01108/laws.FnConjugates", spec := "fnConjugates", recurses := true, apart := false }
def FnConjugatesSaid : Prop := fnConjugatesRow.holds Try.pinned (OpenSpec.ofChange fnConjugatesSpec)

/-- ITS FALSE NEIGHBOUR: 'it returns false'. Refute it at one input. -/
def fnConjugatesWrong : ChangeSpec := { name := "fnConjugates", fn := fun _ => fun
  | [d] => { results := [.lit (.bool false)], args := [d] }
  | _ => none }
def FnConjugatesWrongFalsely : Prop := fnConjugatesRow.holds Try.pinned (OpenSpec.ofChange fnConjugatesWrong)

/-- 'laws.FnOrbits': WHATEVER THE INPUT: true; the input reads as it did. -/
def fnOrbitsSpec : ChangeSpec := { name := "fnOrbits", fn := fun _ => fun
  | [d] => { results := [.lit (.bool true)], args := [d] }
  | _ => none }
def fnOrbitsRow : OpenClaim := { program := "ytbjfeogkdfmjpaa", sum := "8f456a8a90622dfca3d5c7f2e563fb599b3b16597ff7d25fd26f7a6e926679b3", func := "loop.example/g01108/laws.FnOrbits", spec := "fnOrbits", recurses := true, apart := false }
def FnOrbitsSaid : Prop := fnOrbitsRow.holds Try.pinned (OpenSpec.ofChange fnOrbitsSpec)

/-- ITS FALSE NEIGHBOUR: 'it returns false'. Refute it at one input. -/
def fnOrbitsWrong : ChangeSpec := { name := "fnOrbits", fn := fun _ => fun
  | [d] => { results := [.lit (.bool false)], args := [d] }
  | _ => none }
def FnOrbitsWrongFalsely : Prop := fnOrbitsRow.holds Try.pinned (OpenSpec.ofChange fnOrbitsWrong)

/-- 'laws.FnGroups': WHATEVER THE INPUT: true; the input reads as it did. -/
def fnGroupsSpec : ChangeSpec := { name := "fnGroups", fn := fun _ => fun
  | [d] => { results := [.lit (.bool true)], args := [d] }
  | _ => none }
def fnGroupsRow : OpenClaim := { program := "ytbjfeogkdfmjpaa", sum := "8f456a8a90622dfca3d5c7f2e563fb599b3b16597ff7d25fd26f7a6e926679b3", func := "loop.example/g01108/laws.FnGroups", spec := "fnGroups", inPlace := ["internal/abi.NoEscape"], unfollowed := true, recurses := true, apart := false }
def FnGroupsSaid : Prop := fnGroupsRow.holds Try.pinned (OpenSpec.ofChange fnGroupsSpec)

/-- ITS FALSE NEIGHBOUR: 'it returns false'. Refute it at one input. -/
def fnGroupsWrong : ChangeSpec := { name := "fnGroups", fn := fun _ => fun
  | [d] => { results := [.lit (.bool false)], args := [d] }
  | _ => none }
def FnGroupsWrongFalsely : Prop := fnGroupsRow.holds Try.pinned (OpenSpec.ofChange fnGroupsWrong)

/-- 'laws.FnExactIsPermutation': WHATEVER THE INPUT: true; the input reads as it did. -/
def fnExactIsPermutationSpec : ChangeSpec := { name := "fnExactIsPermutation", fn := fun _ => fun
  | [d] => { results := [.lit (.bool true)], args := [d] }
  | _ => none }
def fnExactIsPermutationRow : OpenClaim := { program := "ytbjfeogkdfmjpaa", sum := "8f456a8a90622dfca3d5c7f2e563fb599b3b16597ff7d25fd26f7a6e926679b3", func := "loop.example/g01108/laws.FnExactIsPermutation", spec := "fnExactIsPermutation", apart := false }
def FnExactIsPermutationSaid : Prop := fnExactIsPermutationRow.holds Try.pinned (OpenSpec.ofChange fnExactIsPermutationSpec)

/-- ITS FALSE NEIGHBOUR: 'it returns false'. Refute it at one input. -/
def fnExactIsPermutationWrong : ChangeSpec := { name := "fnExactIsPermutation", fn := fun _ => fun
  | [d] => { results := [.lit (.bool false)], args := [d] }
  | _ => none }
def FnExactIsPermutationWrongFalsely : Prop := fnExactIsPermutationRow.holds Try.pinned (OpenSpec.ofChange fnExactIsPermutationWrong)

/-- 'laws.FnExactThenPermutation': WHATEVER THE INPUT: true; the input reads as it did. -/
def fnExactThenPermutationSpec : ChangeSpec := { name := "fnExactThenPermutation", fn := fun _ => fun
  | [d1, d2] => { results := [.lit (.bool true)], args := [d1, d2] }
  | _ => none }
def fnExactThenPermutationRow : OpenClaim := { program := "ytbjfeogkdfmjpaa", sum := "8f456a8a90622dfca3d5c7f2e563fb599b3b16597ff7d25fd26f7a6e926679b3", func := "loop.example/g01108/laws.FnExactThenPermutation", spec := "fnExactThenPermutation", apart := false }
def FnExactThenPermutationSaid : Prop := fnExactThenPermutationRow.holds Try.pinned (OpenSpec.ofChange fnExactThenPermutationSpec)

/-- ITS FALSE NEIGHBOUR: 'it returns false'. Refute it at one input. -/
def fnExactThenPermutationWrong : ChangeSpec := { name := "fnExactThenPermutation", fn := fun _ => fun
  | [d1, d2] => { results := [.lit (.bool false)], args := [d1, d2] }
  | _ => none }
def FnExactThenPermutationWrongFalsely : Prop := fnExactThenPermutationRow.holds Try.pinned (OpenSpec.ofChange fnExactThenPermutationWrong)

/-- 'laws.FnExactInversePermutation': WHATEVER THE INPUT: true; the input reads as it did. -/
def fnExactInversePermutationSpec : ChangeSpec := { name := "fnExactInversePermutation", fn := fun _ => fun
  | [d] => { results := [.lit (.bool true)], args := [d] }
  | _ => none }
def fnExactInversePermutationRow : OpenClaim := { program := "ytbjfeogkdfmjpaa", sum := "8f456a8a90622dfca3d5c7f2e563fb599b3b16597ff7d25fd26f7a6e926679b3", func := "loop.example/g01108/laws.FnExactInversePermutation", spec := "fnExactInversePermutation", apart := false }
def FnExactInversePermutationSaid : Prop := fnExactInversePermutationRow.holds Try.pinned (OpenSpec.ofChange fnExactInversePermutationSpec)

/-- ITS FALSE NEIGHBOUR: 'it returns false'. Refute it at one input. -/
def fnExactInversePermutationWrong : ChangeSpec := { name := "fnExactInversePermutation", fn := fun _ => fun
  | [d] => { results := [.lit (.bool false)], args := [d] }
  | _ => none }
def FnExactInversePermutationWrongFalsely : Prop := fnExactInversePermutationRow.holds Try.pinned (OpenSpec.ofChange fnExactInversePermutationWrong)

/-- 'laws.FnExactPowerPermutation': WHATEVER THE INPUT: true; the input reads as it did. -/
def fnExactPowerPermutationSpec : ChangeSpec := { name := "fnExactPowerPermutation", fn := fun _ => fun
  | [d1, d2] => { results := [.lit (.bool true)], args := [d1, d2] }
  | _ => none }
def fnExactPowerPermutationRow : OpenClaim := { program := "ytbjfeogkdfmjpaa", sum := "8f456a8a90622dfca3d5c7f2e563fb599b3b16597ff7d25fd26f7a6e926679b3", func := "loop.example/g01108/laws.FnExactPowerPermutation", spec := "fnExactPowerPermutation", apart := false }
def FnExactPowerPermutationSaid : Prop := fnExactPowerPermutationRow.holds Try.pinned (OpenSpec.ofChange fnExactPowerPermutationSpec)

/-- ITS FALSE NEIGHBOUR: 'it returns false'. Refute it at one input. -/
def fnExactPowerPermutationWrong : ChangeSpec := { name := "fnExactPowerPermutation", fn := fun _ => fun
  | [d1, d2] => { results := [.lit (.bool false)], args := [d1, d2] }
  | _ => none }
def FnExactPowerPermutationWrongFalsely : Prop := fnExactPowerPermutationRow.holds Try.pinned (OpenSpec.ofChange fnExactPowerPermutationWrong)

/-- 'laws.FnExactPermutationOrder': WHATEVER THE INPUT: true; the input reads as it did. -/
def fnExactPermutationOrderSpec : ChangeSpec := { name := "fnExactPermutationOrder", fn := fun _ => fun
  | [d] => { results := [.lit (.bool true)], args := [d] }
  | _ => none }
def fnExactPermutationOrderRow : OpenClaim := { program := "ytbjfeogkdfmjpaa", sum := "8f456a8a90622dfca3d5c7f2e563fb599b3b16597ff7d25fd26f7a6e926679b3", func := "loop.example/g01108/laws.FnExactPermutationOrder", spec := "fnExactPermutationOrder", recurses := true, apart := false }
def FnExactPermutationOrderSaid : Prop := fnExactPermutationOrderRow.holds Try.pinned (OpenSpec.ofChange fnExactPermutationOrderSpec)

/-- ITS FALSE NEIGHBOUR: 'it returns false'. Refute it at one input. -/
def fnExactPermutationOrderWrong : ChangeSpec := { name := "fnExactPermutationOrder", fn := fun _ => fun
  | [d] => { results := [.lit (.bool false)], args := [d] }
  | _ => none }
def FnExactPermutationOrderWrongFalsely : Prop := fnExactPermutationOrderRow.holds Try.pinned (OpenSpec.ofChange fnExactPermutationOrderWrong)

/-- 'laws.FnExactCycleLengths': WHATEVER THE INPUT: true; the input reads as it did. -/
def fnExactCycleLengthsSpec : ChangeSpec := { name := "fnExactCycleLengths", fn := fun _ => fun
  | [d] => { results := [.lit (.bool true)], args := [d] }
  | _ => none }
def fnExactCycleLengthsRow : OpenClaim := { program := "ytbjfeogkdfmjpaa", sum := "8f456a8a90622dfca3d5c7f2e563fb599b3b16597ff7d25fd26f7a6e926679b3", func := "loop.example/g01108/laws.FnExactCycleLengths", spec := "fnExactCycleLengths", recurses := true, apart := false }
def FnExactCycleLengthsSaid : Prop := fnExactCycleLengthsRow.holds Try.pinned (OpenSpec.ofChange fnExactCycleLengthsSpec)

/-- ITS FALSE NEIGHBOUR: 'it returns false'. Refute it at one input. -/
def fnExactCycleLengthsWrong : ChangeSpec := { name := "fnExactCycleLengths", fn := fun _ => fun
  | [d] => { results := [.lit (.bool false)], args := [d] }
  | _ => none }
def FnExactCycleLengthsWrongFalsely : Prop := fnExactCycleLengthsRow.holds Try.pinned (OpenSpec.ofChange fnExactCycleLengthsWrong)

/-- 'laws.FnExactConjugatePermutation': WHATEVER THE INPUT: true; the input reads as it did. -/
def fnExactConjugatePermutationSpec : ChangeSpec := { name := "fnExactConjugatePermutation", fn := fun _ => fun
  | [d1, d2] => { results := [.lit (.bool true)], args := [d1, d2] }
  | _ => none }
def fnExactConjugatePermutationRow : OpenClaim := { program := "ytbjfeogkdfmjpaa", sum := "8f456a8a90622dfca3d5c7f2e563fb599b3b16597ff7d25fd26f7a6e926679b3", func := "loop.example/g01108/laws.FnExactConjugatePermutation", spec := "fnExactConjugatePermutation", apart := false }
def FnExactConjugatePermutationSaid : Prop := fnExactConjugatePermutationRow.holds Try.pinned (OpenSpec.ofChange fnExactConjugatePermutationSpec)

/-- ITS FALSE NEIGHBOUR: 'it returns false'. Refute it at one input. -/
def fnExactConjugatePermutationWrong : ChangeSpec := { name := "fnExactConjugatePermutation", fn := fun _ => fun
  | [d1, d2] => { results := [.lit (.bool false)], args := [d1, d2] }
  | _ => none }
def FnExactConjugatePermutationWrongFalsely : Prop := fnExactConjugatePermutationRow.holds Try.pinned (OpenSpec.ofChange fnExactConjugatePermutationWrong)

/-- 'laws.FnExactIsFreeInvolution': WHATEVER THE INPUT: true; the input reads as it did. -/
def fnExactIsFreeInvolutionSpec : ChangeSpec := { name := "fnExactIsFreeInvolution", fn := fun _ => fun
  | [d] => { results := [.lit (.bool true)], args := [d] }
  | _ => none }
def fnExactIsFreeInvolutionRow : OpenClaim := { program := "ytbjfeogkdfmjpaa", sum := "8f456a8a90622dfca3d5c7f2e563fb599b3b16597ff7d25fd26f7a6e926679b3", func := "loop.example/g01108/laws.FnExactIsFreeInvolution", spec := "fnExactIsFreeInvolution", apart := false }
def FnExactIsFreeInvolutionSaid : Prop := fnExactIsFreeInvolutionRow.holds Try.pinned (OpenSpec.ofChange fnExactIsFreeInvolutionSpec)

/-- ITS FALSE NEIGHBOUR: 'it returns false'. Refute it at one input. -/
def fnExactIsFreeInvolutionWrong : ChangeSpec := { name := "fnExactIsFreeInvolution", fn := fun _ => fun
  | [d] => { results := [.lit (.bool false)], args := [d] }
  | _ => none }
def FnExactIsFreeInvolutionWrongFalsely : Prop := fnExactIsFreeInvolutionRow.holds Try.pinned (OpenSpec.ofChange fnExactIsFreeInvolutionWrong)

/-- 'laws.FnExactApplyWord': WHATEVER THE INPUT: true; the input reads as it did. -/
def fnExactApplyWordSpec : ChangeSpec := { name := "fnExactApplyWord", fn := fun _ => fun
  | [d1, d2, d3, d4] => { results := [.lit (.bool true)], args := [d1, d2, d3, d4] }
  | _ => none }
def fnExactApplyWordRow : OpenClaim := { program := "ytbjfeogkdfmjpaa", sum := "8f456a8a90622dfca3d5c7f2e563fb599b3b16597ff7d25fd26f7a6e926679b3", func := "loop.example/g01108/laws.FnExactApplyWord", spec := "fnExactApplyWord", apart := false }
def FnExactApplyWordSaid : Prop := fnExactApplyWordRow.holds Try.pinned (OpenSpec.ofChange fnExactApplyWordSpec)

/-- ITS FALSE NEIGHBOUR: 'it returns false'. Refute it at one input. -/
def fnExactApplyWordWrong : ChangeSpec := { name := "fnExactApplyWord", fn := fun _ => fun
  | [d1, d2, d3, d4] => { results := [.lit (.bool false)], args := [d1, d2, d3, d4] }
  | _ => none }
def FnExactApplyWordWrongFalsely : Prop := fnExactApplyWordRow.holds Try.pinned (OpenSpec.ofChange fnExactApplyWordWrong)

/-- 'laws.FnExactOrbitLabels': WHATEVER THE INPUT: true; the input reads as it did. -/
def fnExactOrbitLabelsSpec : ChangeSpec := { name := "fnExactOrbitLabels", fn := fun _ => fun
  | [d1, d2] => { results := [.lit (.bool true)], args := [d1, d2] }
  | _ => none }
def fnExactOrbitLabelsRow : OpenClaim := { program := "ytbjfeogkdfmjpaa", sum := "8f456a8a90622dfca3d5c7f2e563fb599b3b16597ff7d25fd26f7a6e926679b3", func := "loop.example/g01108/laws.FnExactOrbitLabels", spec := "fnExactOrbitLabels", apart := false }
def FnExactOrbitLabelsSaid : Prop := fnExactOrbitLabelsRow.holds Try.pinned (OpenSpec.ofChange fnExactOrbitLabelsSpec)

/-- ITS FALSE NEIGHBOUR: 'it returns false'. Refute it at one input. -/
def fnExactOrbitLabelsWrong : ChangeSpec := { name := "fnExactOrbitLabels", fn := fun _ => fun
  | [d1, d2] => { results := [.lit (.bool false)], args := [d1, d2] }
  | _ => none }
def FnExactOrbitLabelsWrongFalsely : Prop := fnExactOrbitLabelsRow.holds Try.pinned (OpenSpec.ofChange fnExactOrbitLabelsWrong)

/-- 'laws.FnExactOrbitOf': WHATEVER THE INPUT: true; the input reads as it did. -/
def fnExactOrbitOfSpec : ChangeSpec := { name := "fnExactOrbitOf", fn := fun _ => fun
  | [d1, d2, d3] => { results := [.lit (.bool true)], args := [d1, d2, d3] }
  | _ => none }
def fnExactOrbitOfRow : OpenClaim := { program := "ytbjfeogkdfmjpaa", sum := "8f456a8a90622dfca3d5c7f2e563fb599b3b16597ff7d25fd26f7a6e926679b3", func := "loop.example/g01108/laws.FnExactOrbitOf", spec := "fnExactOrbitOf", recurses := true, apart := false }
def FnExactOrbitOfSaid : Prop := fnExactOrbitOfRow.holds Try.pinned (OpenSpec.ofChange fnExactOrbitOfSpec)

/-- ITS FALSE NEIGHBOUR: 'it returns false'. Refute it at one input. -/
def fnExactOrbitOfWrong : ChangeSpec := { name := "fnExactOrbitOf", fn := fun _ => fun
  | [d1, d2, d3] => { results := [.lit (.bool false)], args := [d1, d2, d3] }
  | _ => none }
def FnExactOrbitOfWrongFalsely : Prop := fnExactOrbitOfRow.holds Try.pinned (OpenSpec.ofChange fnExactOrbitOfWrong)

/-- 'laws.FnExactGroupElements': WHATEVER THE INPUT: true; the input reads as it did. -/
def fnExactGroupElementsSpec : ChangeSpec := { name := "fnExactGroupElements", fn := fun _ => fun
  | [d1, d2] => { results := [.lit (.bool true)], args := [d1, d2] }
  | _ => none }
def fnExactGroupElementsRow : OpenClaim := { program := "ytbjfeogkdfmjpaa", sum := "8f456a8a90622dfca3d5c7f2e563fb599b3b16597ff7d25fd26f7a6e926679b3", func := "loop.example/g01108/laws.FnExactGroupElements", spec := "fnExactGroupElements", inPlace := ["internal/abi.NoEscape"], unfollowed := true, recurses := true, apart := false }
def FnExactGroupElementsSaid : Prop := fnExactGroupElementsRow.holds Try.pinned (OpenSpec.ofChange fnExactGroupElementsSpec)

/-- ITS FALSE NEIGHBOUR: 'it returns false'. Refute it at one input. -/
def fnExactGroupElementsWrong : ChangeSpec := { name := "fnExactGroupElements", fn := fun _ => fun
  | [d1, d2] => { results := [.lit (.bool false)], args := [d1, d2] }
  | _ => none }
def FnExactGroupElementsWrongFalsely : Prop := fnExactGroupElementsRow.holds Try.pinned (OpenSpec.ofChange fnExactGroupElementsWrong)

/- THE SECOND FORM. 'bulk': how many values and letters a reading holds, each counted each time it is reached (what is shared counts as often as it is met; a slice's spare places count too). A statement '..UptoSaid' is the law's where the arguments, and the package variables that the reading takes, are together of bulk at most 1048576: NARROWER than '..Said'. Prove '..Said' where nothing that the law and all that it calls make is longer than what came in: it says more and counts as full. Else prove '..UptoSaid'. A law counts once. -/
mutual
def uptoBulk {H : Type} : DataW H → Nat
  | .lit (.string bytes) => bytes.length + 1
  | .lit _ => 1
  | .nil => 1
  | .ptr d => uptoBulk d + 1
  | .slice elems spare => uptoBulkAll elems + uptoBulkAll spare + 1
  | .agg parts => uptoBulkAll parts + 1
  | .iface _ d => uptoBulk d + 1
  | .map entries => uptoBulkEntries entries + 1
  | .held _ => 1
def uptoBulkAll {H : Type} : List (DataW H) → Nat
  | [] => 0
  | d :: r => uptoBulk d + uptoBulkAll r
def uptoBulkEntries {H : Type} : List (Lit × DataW H) → Nat
  | [] => 0
  | x :: r => uptoBulkEntry x + uptoBulkEntries r
def uptoBulkEntry {H : Type} : Lit × DataW H → Nat
  | (.string bytes, d) => bytes.length + uptoBulk d + 1
  | (_, d) => uptoBulk d + 1
 end
def uptoSmall : (H : Type) → List (DataW H) → Bool := fun _ ds => decide (uptoBulkAll ds ≤ 1048576)
def OpenSpec.upto (s : _root_.Go.ChangeSpec) : _root_.Go.OpenSpec := { _root_.Go.OpenSpec.ofChange s with cond := some uptoSmall }

/-- 'laws.FnPermutationOrders', WHERE WHAT IT READS IS OF BULK AT MOST 1048576: true; the input reads as it did. -/
def fnPermutationOrdersUptoRow : OpenClaim := { program := "ytbjfeogkdfmjpaa", sum := "8f456a8a90622dfca3d5c7f2e563fb599b3b16597ff7d25fd26f7a6e926679b3", func := "loop.example/g01108/laws.FnPermutationOrders", spec := "fnPermutationOrders", recurses := true, apart := false, narrowed := true }
def FnPermutationOrdersUptoSaid : Prop := fnPermutationOrdersUptoRow.holds Try.pinned (OpenSpec.upto fnPermutationOrdersSpec)

/-- 'laws.FnConjugates', WHERE WHAT IT READS IS OF BULK AT MOST 1048576: true; the input reads as it did. -/
def fnConjugatesUptoRow : OpenClaim := { program := "ytbjfeogkdfmjpaa", sum := "8f456a8a90622dfca3d5c7f2e563fb599b3b16597ff7d25fd26f7a6e926679b3", func := "loop.example/g01108/laws.FnConjugates", spec := "fnConjugates", recurses := true, apart := false, narrowed := true }
def FnConjugatesUptoSaid : Prop := fnConjugatesUptoRow.holds Try.pinned (OpenSpec.upto fnConjugatesSpec)

/-- 'laws.FnOrbits', WHERE WHAT IT READS IS OF BULK AT MOST 1048576: true; the input reads as it did. -/
def fnOrbitsUptoRow : OpenClaim := { program := "ytbjfeogkdfmjpaa", sum := "8f456a8a90622dfca3d5c7f2e563fb599b3b16597ff7d25fd26f7a6e926679b3", func := "loop.example/g01108/laws.FnOrbits", spec := "fnOrbits", recurses := true, apart := false, narrowed := true }
def FnOrbitsUptoSaid : Prop := fnOrbitsUptoRow.holds Try.pinned (OpenSpec.upto fnOrbitsSpec)

/-- 'laws.FnGroups', WHERE WHAT IT READS IS OF BULK AT MOST 1048576: true; the input reads as it did. -/
def fnGroupsUptoRow : OpenClaim := { program := "ytbjfeogkdfmjpaa", sum := "8f456a8a90622dfca3d5c7f2e563fb599b3b16597ff7d25fd26f7a6e926679b3", func := "loop.example/g01108/laws.FnGroups", spec := "fnGroups", inPlace := ["internal/abi.NoEscape"], unfollowed := true, recurses := true, apart := false, narrowed := true }
def FnGroupsUptoSaid : Prop := fnGroupsUptoRow.holds Try.pinned (OpenSpec.upto fnGroupsSpec)

/-- 'laws.FnExactIsPermutation', WHERE WHAT IT READS IS OF BULK AT MOST 1048576: true; the input reads as it did. -/
def fnExactIsPermutationUptoRow : OpenClaim := { program := "ytbjfeogkdfmjpaa", sum := "8f456a8a90622dfca3d5c7f2e563fb599b3b16597ff7d25fd26f7a6e926679b3", func := "loop.example/g01108/laws.FnExactIsPermutation", spec := "fnExactIsPermutation", apart := false, narrowed := true }
def FnExactIsPermutationUptoSaid : Prop := fnExactIsPermutationUptoRow.holds Try.pinned (OpenSpec.upto fnExactIsPermutationSpec)

/-- 'laws.FnExactThenPermutation', WHERE WHAT IT READS IS OF BULK AT MOST 1048576: true; the input reads as it did. -/
def fnExactThenPermutationUptoRow : OpenClaim := { program := "ytbjfeogkdfmjpaa", sum := "8f456a8a90622dfca3d5c7f2e563fb599b3b16597ff7d25fd26f7a6e926679b3", func := "loop.example/g01108/laws.FnExactThenPermutation", spec := "fnExactThenPermutation", apart := false, narrowed := true }
def FnExactThenPermutationUptoSaid : Prop := fnExactThenPermutationUptoRow.holds Try.pinned (OpenSpec.upto fnExactThenPermutationSpec)

/-- 'laws.FnExactInversePermutation', WHERE WHAT IT READS IS OF BULK AT MOST 1048576: true; the input reads as it did. -/
def fnExactInversePermutationUptoRow : OpenClaim := { program := "ytbjfeogkdfmjpaa", sum := "8f456a8a90622dfca3d5c7f2e563fb599b3b16597ff7d25fd26f7a6e926679b3", func := "loop.example/g01108/laws.FnExactInversePermutation", spec := "fnExactInversePermutation", apart := false, narrowed := true }
def FnExactInversePermutationUptoSaid : Prop := fnExactInversePermutationUptoRow.holds Try.pinned (OpenSpec.upto fnExactInversePermutationSpec)

/-- 'laws.FnExactPowerPermutation', WHERE WHAT IT READS IS OF BULK AT MOST 1048576: true; the input reads as it did. -/
def fnExactPowerPermutationUptoRow : OpenClaim := { program := "ytbjfeogkdfmjpaa", sum := "8f456a8a90622dfca3d5c7f2e563fb599b3b16597ff7d25fd26f7a6e926679b3", func := "loop.example/g01108/laws.FnExactPowerPermutation", spec := "fnExactPowerPermutation", apart := false, narrowed := true }
def FnExactPowerPermutationUptoSaid : Prop := fnExactPowerPermutationUptoRow.holds Try.pinned (OpenSpec.upto fnExactPowerPermutationSpec)

/-- 'laws.FnExactPermutationOrder', WHERE WHAT IT READS IS OF BULK AT MOST 1048576: true; the input reads as it did. -/
def fnExactPermutationOrderUptoRow : OpenClaim := { program := "ytbjfeogkdfmjpaa", sum := "8f456a8a90622dfca3d5c7f2e563fb599b3b16597ff7d25fd26f7a6e926679b3", func := "loop.example/g01108/laws.FnExactPermutationOrder", spec := "fnExactPermutationOrder", recurses := true, apart := false, narrowed := true }
def FnExactPermutationOrderUptoSaid : Prop := fnExactPermutationOrderUptoRow.holds Try.pinned (OpenSpec.upto fnExactPermutationOrderSpec)

/-- 'laws.FnExactCycleLengths', WHERE WHAT IT READS IS OF BULK AT MOST 1048576: true; the input reads as it did. -/
def fnExactCycleLengthsUptoRow : OpenClaim := { program := "ytbjfeogkdfmjpaa", sum := "8f456a8a90622dfca3d5c7f2e563fb599b3b16597ff7d25fd26f7a6e926679b3", func := "loop.example/g01108/laws.FnExactCycleLengths", spec := "fnExactCycleLengths", recurses := true, apart := false, narrowed := true }
def FnExactCycleLengthsUptoSaid : Prop := fnExactCycleLengthsUptoRow.holds Try.pinned (OpenSpec.upto fnExactCycleLengthsSpec)

/-- 'laws.FnExactConjugatePermutation', WHERE WHAT IT READS IS OF BULK AT MOST 1048576: true; the input reads as it did. -/
def fnExactConjugatePermutationUptoRow : OpenClaim := { program := "ytbjfeogkdfmjpaa", sum := "8f456a8a90622dfca3d5c7f2e563fb599b3b16597ff7d25fd26f7a6e926679b3", func := "loop.example/g01108/laws.FnExactConjugatePermutation", spec := "fnExactConjugatePermutation", apart := false, narrowed := true }
def FnExactConjugatePermutationUptoSaid : Prop := fnExactConjugatePermutationUptoRow.holds Try.pinned (OpenSpec.upto fnExactConjugatePermutationSpec)

/-- 'laws.FnExactIsFreeInvolution', WHERE WHAT IT READS IS OF BULK AT MOST 1048576: true; the input reads as it did. -/
def fnExactIsFreeInvolutionUptoRow : OpenClaim := { program := "ytbjfeogkdfmjpaa", sum := "8f456a8a90622dfca3d5c7f2e563fb599b3b16597ff7d25fd26f7a6e926679b3", func := "loop.example/g01108/laws.FnExactIsFreeInvolution", spec := "fnExactIsFreeInvolution", apart := false, narrowed := true }
def FnExactIsFreeInvolutionUptoSaid : Prop := fnExactIsFreeInvolutionUptoRow.holds Try.pinned (OpenSpec.upto fnExactIsFreeInvolutionSpec)

/-- 'laws.FnExactApplyWord', WHERE WHAT IT READS IS OF BULK AT MOST 1048576: true; the input reads as it did. -/
def fnExactApplyWordUptoRow : OpenClaim := { program := "ytbjfeogkdfmjpaa", sum := "8f456a8a90622dfca3d5c7f2e563fb599b3b16597ff7d25fd26f7a6e926679b3", func := "loop.example/g01108/laws.FnExactApplyWord", spec := "fnExactApplyWord", apart := false, narrowed := true }
def FnExactApplyWordUptoSaid : Prop := fnExactApplyWordUptoRow.holds Try.pinned (OpenSpec.upto fnExactApplyWordSpec)

/-- 'laws.FnExactOrbitLabels', WHERE WHAT IT READS IS OF BULK AT MOST 1048576: true; the input reads as it did. -/
def fnExactOrbitLabelsUptoRow : OpenClaim := { program := "ytbjfeogkdfmjpaa", sum := "8f456a8a90622dfca3d5c7f2e563fb599b3b16597ff7d25fd26f7a6e926679b3", func := "loop.example/g01108/laws.FnExactOrbitLabels", spec := "fnExactOrbitLabels", apart := false, narrowed := true }
def FnExactOrbitLabelsUptoSaid : Prop := fnExactOrbitLabelsUptoRow.holds Try.pinned (OpenSpec.upto fnExactOrbitLabelsSpec)

/-- 'laws.FnExactOrbitOf', WHERE WHAT IT READS IS OF BULK AT MOST 1048576: true; the input reads as it did. -/
def fnExactOrbitOfUptoRow : OpenClaim := { program := "ytbjfeogkdfmjpaa", sum := "8f456a8a90622dfca3d5c7f2e563fb599b3b16597ff7d25fd26f7a6e926679b3", func := "loop.example/g01108/laws.FnExactOrbitOf", spec := "fnExactOrbitOf", recurses := true, apart := false, narrowed := true }
def FnExactOrbitOfUptoSaid : Prop := fnExactOrbitOfUptoRow.holds Try.pinned (OpenSpec.upto fnExactOrbitOfSpec)

/-- 'laws.FnExactGroupElements', WHERE WHAT IT READS IS OF BULK AT MOST 1048576: true; the input reads as it did. -/
def fnExactGroupElementsUptoRow : OpenClaim := { program := "ytbjfeogkdfmjpaa", sum := "8f456a8a90622dfca3d5c7f2e563fb599b3b16597ff7d25fd26f7a6e926679b3", func := "loop.example/g01108/laws.FnExactGroupElements", spec := "fnExactGroupElements", inPlace := ["internal/abi.NoEscape"], unfollowed := true, recurses := true, apart := false, narrowed := true }
def FnExactGroupElementsUptoSaid : Prop := fnExactGroupElementsUptoRow.holds Try.pinned (OpenSpec.upto fnExactGroupElementsSpec)

end Rows
end Go.Proofs.Ytbjfeogkdfmjpaa
