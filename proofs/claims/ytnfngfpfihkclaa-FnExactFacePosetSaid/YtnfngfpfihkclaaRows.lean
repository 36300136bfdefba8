/-
  No cell of these rows narrows 'for every input' (looked for: loops, veiled, ifaces, maps, wideKeys, modest, calm, conditions, laid).
  DERIVED. THE GIVEN ROWS OF THIS SEAT. 9 by the template 'for every input the law returns true; each argument reads behind the call as it read before'; 0 by the template 'total and deterministic' (their statements: YtnfngfpfihkclaaTotals.lean).
  GIVEN WITH THE SEED: the statements are not yours to turn. If you find one false, say at which input.
  Laid BY PROGRAM, IN A SANDBOX (cutbox-rows.mjs): the forced cells as the released guide's own fill.sh prints them over the translation 8dd3972e46c40f61… (all of the seat's roots in one cut). By AI agents, Wed Nov 11 2026. No macro, syntax, notation, axiom, sorry.
-/
import Derived.Test.YtnfngfpfihkclaaChecked
import GoSem.Claim
import GoSem.ClaimJoined
import GoSem.ClaimMapViews
import Derived.JoinedTies
import Derived.KernelRfl
namespace Go.Proofs.Ytnfngfpfihkclaa
/- THE CELL 'sum', in the pinned program and in every row, IS THE sha256 OF THE DUMP (.gsa) THAT YtnfngfpfihkclaaProg.lean LOADS. Nothing in Lean hashes anything: it is a label: what it is worth is what the hold of that sum in a sandbox is worth. -/
noncomputable def Try.pinned : Pinned := { name := "ytnfngfpfihkclaa", sum := "8dd3972e46c40f61eac7a1750ecc01f3f103907daedc8960e5e7862c65479731", checked := Try.checked }
namespace Rows
def none {H : Type} : Left H := { results := [], args := [] }

/-- 'laws.FnFacePosets': WHATEVER THE INPUT: true; the input reads as it did. -/
def fnFacePosetsSpec : ChangeSpec := { name := "fnFacePosets", fn := fun _ => fun
  | [d] => { results := [.lit (.bool true)], args := [d] }
  | _ => none }
def fnFacePosetsRow : OpenClaim := { program := "ytnfngfpfihkclaa", sum := "8dd3972e46c40f61eac7a1750ecc01f3f103907daedc8960e5e7862c65479731", func := "loop.example/g01108/laws.FnFacePosets", spec := "fnFacePosets", recurses := true, plainKeys := false, apart := false }
def FnFacePosetsSaid : Prop := fnFacePosetsRow.holds Try.pinned (OpenSpec.ofChange fnFacePosetsSpec)

/-- ITS FALSE NEIGHBOUR: 'it returns false'. Refute it at one input. -/
def fnFacePosetsWrong : ChangeSpec := { name := "fnFacePosets", fn := fun _ => fun
  | [d] => { results := [.lit (.bool false)], args := [d] }
  | _ => none }
def FnFacePosetsWrongFalsely : Prop := fnFacePosetsRow.holds Try.pinned (OpenSpec.ofChange fnFacePosetsWrong)

/-- 'laws.FnOpposites': WHATEVER THE INPUT: true; the input reads as it did. -/
def fnOppositesSpec : ChangeSpec := { name := "fnOpposites", fn := fun _ => fun
  | [d] => { results := [.lit (.bool true)], args := [d] }
  | _ => none }
def fnOppositesRow : OpenClaim := { program := "ytnfngfpfihkclaa", sum := "8dd3972e46c40f61eac7a1750ecc01f3f103907daedc8960e5e7862c65479731", func := "loop.example/g01108/laws.FnOpposites", spec := "fnOpposites", unfollowed := true, recurses := true, plainKeys := false, apart := false }
def FnOppositesSaid : Prop := fnOppositesRow.holds Try.pinned (OpenSpec.ofChange fnOppositesSpec)

/-- ITS FALSE NEIGHBOUR: 'it returns false'. Refute it at one input. -/
def fnOppositesWrong : ChangeSpec := { name := "fnOpposites", fn := fun _ => fun
  | [d] => { results := [.lit (.bool false)], args := [d] }
  | _ => none }
def FnOppositesWrongFalsely : Prop := fnOppositesRow.holds Try.pinned (OpenSpec.ofChange fnOppositesWrong)

/-- 'laws.FnExactFacePoset': WHATEVER THE INPUT: true; the input reads as it did. -/
def fnExactFacePosetSpec : ChangeSpec := { name := "fnExactFacePoset", fn := fun _ => fun
  | [d] => { results := [.lit (.bool true)], args := [d] }
  | _ => none }
def fnExactFacePosetRow : OpenClaim := { program := "ytnfngfpfihkclaa", sum := "8dd3972e46c40f61eac7a1750ecc01f3f103907daedc8960e5e7862c65479731", func := "loop.example/g01108/laws.FnExactFacePoset", spec := "fnExactFacePoset", recurses := true, plainKeys := false, apart := false }
def FnExactFacePosetSaid : Prop := fnExactFacePosetRow.holds Try.pinned (OpenSpec.ofChange fnExactFacePosetSpec)

/-- ITS FALSE NEIGHBOUR: 'it returns false'. Refute it at one input. -/
def fnExactFacePosetWrong : ChangeSpec := { name := "fnExactFacePoset", fn := fun _ => fun
  | [d] => { results := [.lit (.bool false)], args := [d] }
  | _ => none }
def FnExactFacePosetWrongFalsely : Prop := fnExactFacePosetRow.holds Try.pinned (OpenSpec.ofChange fnExactFacePosetWrong)

/-- 'laws.FnExactFlagsOf': WHATEVER THE INPUT: true; the input reads as it did. -/
def fnExactFlagsOfSpec : ChangeSpec := { name := "fnExactFlagsOf", fn := fun _ => fun
  | [d] => { results := [.lit (.bool true)], args := [d] }
  | _ => none }
def fnExactFlagsOfRow : OpenClaim := { program := "ytnfngfpfihkclaa", sum := "8dd3972e46c40f61eac7a1750ecc01f3f103907daedc8960e5e7862c65479731", func := "loop.example/g01108/laws.FnExactFlagsOf", spec := "fnExactFlagsOf", unfollowed := true, recurses := true, plainKeys := false, apart := false }
def FnExactFlagsOfSaid : Prop := fnExactFlagsOfRow.holds Try.pinned (OpenSpec.ofChange fnExactFlagsOfSpec)

/-- ITS FALSE NEIGHBOUR: 'it returns false'. Refute it at one input. -/
def fnExactFlagsOfWrong : ChangeSpec := { name := "fnExactFlagsOf", fn := fun _ => fun
  | [d] => { results := [.lit (.bool false)], args := [d] }
  | _ => none }
def FnExactFlagsOfWrongFalsely : Prop := fnExactFlagsOfRow.holds Try.pinned (OpenSpec.ofChange fnExactFlagsOfWrong)

/-- 'laws.FnExactDiamondFault': WHATEVER THE INPUT: true; the input reads as it did. -/
def fnExactDiamondFaultSpec : ChangeSpec := { name := "fnExactDiamondFault", fn := fun _ => fun
  | [d] => { results := [.lit (.bool true)], args := [d] }
  | _ => none }
def fnExactDiamondFaultRow : OpenClaim := { program := "ytnfngfpfihkclaa", sum := "8dd3972e46c40f61eac7a1750ecc01f3f103907daedc8960e5e7862c65479731", func := "loop.example/g01108/laws.FnExactDiamondFault", spec := "fnExactDiamondFault", unfollowed := true, recurses := true, plainKeys := false, apart := false }
def FnExactDiamondFaultSaid : Prop := fnExactDiamondFaultRow.holds Try.pinned (OpenSpec.ofChange fnExactDiamondFaultSpec)

/-- ITS FALSE NEIGHBOUR: 'it returns false'. Refute it at one input. -/
def fnExactDiamondFaultWrong : ChangeSpec := { name := "fnExactDiamondFault", fn := fun _ => fun
  | [d] => { results := [.lit (.bool false)], args := [d] }
  | _ => none }
def FnExactDiamondFaultWrongFalsely : Prop := fnExactDiamondFaultRow.holds Try.pinned (OpenSpec.ofChange fnExactDiamondFaultWrong)

/-- 'laws.FnExactIsPure': WHATEVER THE INPUT: true; the input reads as it did. -/
def fnExactIsPureSpec : ChangeSpec := { name := "fnExactIsPure", fn := fun _ => fun
  | [d] => { results := [.lit (.bool true)], args := [d] }
  | _ => none }
def fnExactIsPureRow : OpenClaim := { program := "ytnfngfpfihkclaa", sum := "8dd3972e46c40f61eac7a1750ecc01f3f103907daedc8960e5e7862c65479731", func := "loop.example/g01108/laws.FnExactIsPure", spec := "fnExactIsPure", unfollowed := true, recurses := true, plainKeys := false, apart := false }
def FnExactIsPureSaid : Prop := fnExactIsPureRow.holds Try.pinned (OpenSpec.ofChange fnExactIsPureSpec)

/-- ITS FALSE NEIGHBOUR: 'it returns false'. Refute it at one input. -/
def fnExactIsPureWrong : ChangeSpec := { name := "fnExactIsPure", fn := fun _ => fun
  | [d] => { results := [.lit (.bool false)], args := [d] }
  | _ => none }
def FnExactIsPureWrongFalsely : Prop := fnExactIsPureRow.holds Try.pinned (OpenSpec.ofChange fnExactIsPureWrong)

/-- 'laws.FnExactConnectionFault': WHATEVER THE INPUT: true; the input reads as it did. -/
def fnExactConnectionFaultSpec : ChangeSpec := { name := "fnExactConnectionFault", fn := fun _ => fun
  | [d] => { results := [.lit (.bool true)], args := [d] }
  | _ => none }
def fnExactConnectionFaultRow : OpenClaim := { program := "ytnfngfpfihkclaa", sum := "8dd3972e46c40f61eac7a1750ecc01f3f103907daedc8960e5e7862c65479731", func := "loop.example/g01108/laws.FnExactConnectionFault", spec := "fnExactConnectionFault", unfollowed := true, recurses := true, plainKeys := false, apart := false }
def FnExactConnectionFaultSaid : Prop := fnExactConnectionFaultRow.holds Try.pinned (OpenSpec.ofChange fnExactConnectionFaultSpec)

/-- ITS FALSE NEIGHBOUR: 'it returns false'. Refute it at one input. -/
def fnExactConnectionFaultWrong : ChangeSpec := { name := "fnExactConnectionFault", fn := fun _ => fun
  | [d] => { results := [.lit (.bool false)], args := [d] }
  | _ => none }
def FnExactConnectionFaultWrongFalsely : Prop := fnExactConnectionFaultRow.holds Try.pinned (OpenSpec.ofChange fnExactConnectionFaultWrong)

/-- 'laws.FnExactIsPolytope': WHATEVER THE INPUT: true; the input reads as it did. -/
def fnExactIsPolytopeSpec : ChangeSpec := { name := "fnExactIsPolytope", fn := fun _ => fun
  | [d] => { results := [.lit (.bool true)], args := [d] }
  | _ => none }
def fnExactIsPolytopeRow : OpenClaim := { program := "ytnfngfpfihkclaa", sum := "8dd3972e46c40f61eac7a1750ecc01f3f103907daedc8960e5e7862c65479731", func := "loop.example/g01108/laws.FnExactIsPolytope", spec := "fnExactIsPolytope", unfollowed := true, recurses := true, plainKeys := false, apart := false }
def FnExactIsPolytopeSaid : Prop := fnExactIsPolytopeRow.holds Try.pinned (OpenSpec.ofChange fnExactIsPolytopeSpec)

/-- ITS FALSE NEIGHBOUR: 'it returns false'. Refute it at one input. -/
def fnExactIsPolytopeWrong : ChangeSpec := { name := "fnExactIsPolytope", fn := fun _ => fun
  | [d] => { results := [.lit (.bool false)], args := [d] }
  | _ => none }
def FnExactIsPolytopeWrongFalsely : Prop := fnExactIsPolytopeRow.holds Try.pinned (OpenSpec.ofChange fnExactIsPolytopeWrong)

/-- 'laws.FnExactManiplexOf': WHATEVER THE INPUT: true; the input reads as it did. -/
def fnExactManiplexOfSpec : ChangeSpec := { name := "fnExactManiplexOf", fn := fun _ => fun
  | [d] => { results := [.lit (.bool true)], args := [d] }
  | _ => none }
def fnExactManiplexOfRow : OpenClaim := { program := "ytnfngfpfihkclaa", sum := "8dd3972e46c40f61eac7a1750ecc01f3f103907daedc8960e5e7862c65479731", func := "loop.example/g01108/laws.FnExactManiplexOf", spec := "fnExactManiplexOf", unfollowed := true, recurses := true, plainKeys := false, apart := false }
def FnExactManiplexOfSaid : Prop := fnExactManiplexOfRow.holds Try.pinned (OpenSpec.ofChange fnExactManiplexOfSpec)

/-- ITS FALSE NEIGHBOUR: 'it returns false'. Refute it at one input. -/
def fnExactManiplexOfWrong : ChangeSpec := { name := "fnExactManiplexOf", fn := fun _ => fun
  | [d] => { results := [.lit (.bool false)], args := [d] }
  | _ => none }
def FnExactManiplexOfWrongFalsely : Prop := fnExactManiplexOfRow.holds Try.pinned (OpenSpec.ofChange fnExactManiplexOfWrong)

/- THE SECOND FORM. 'bulk': how many values and letters a reading holds, each counted each time it is reached (what is shared counts as often as it is met; a slice's spare places count too). A statement '..UptoSaid' is the law's where the arguments, and the package variables that the reading takes, are together of bulk at most 1048576: NARROWER than '..Said'. Prove '..Said' where nothing that the law and all that it calls make is longer than what came in: it says more and counts as full. Else prove '..UptoSaid'. A law counts once. -/
mutual
def uptoBulk {H : Type} : DataW H → Nat
  | .lit (.string bytes) => bytes.length + 1
  | .lit _ => 1
  | .nil => 1
  | .ptr d => uptoBulk d + 1
  | .slice elems spare => uptoBulkAll elems + uptoBulkAll spare + 1
  | .agg parts => uptoBulkAll parts + 1
  | .iface _ d => uptoBulk d + 1
  | .map entries => uptoBulkEntries entries + 1
  | .held _ => 1
def uptoBulkAll {H : Type} : List (DataW H) → Nat
  | [] => 0
  | d :: r => uptoBulk d + uptoBulkAll r
def uptoBulkEntries {H : Type} : List (Lit × DataW H) → Nat
  | [] => 0
  | x :: r => uptoBulkEntry x + uptoBulkEntries r
def uptoBulkEntry {H : Type} : Lit × DataW H → Nat
  | (.string bytes, d) => bytes.length + uptoBulk d + 1
  | (_, d) => uptoBulk d + 1
 end
def uptoSmall : (H : Type) → List (DataW H) → Bool := fun _ ds => decide (uptoBulkAll ds ≤ 1048576)
def OpenSpec.upto (s : _root_.Go.ChangeSpec) : _root_.Go.OpenSpec := { _root_.Go.OpenSpec.ofChange s with cond := some uptoSmall }

/-- 'laws.FnFacePosets', WHERE WHAT IT READS IS OF BULK AT MOST 1048576: true; the input reads as it did. -/
def fnFacePosetsUptoRow : OpenClaim := { program := "ytnfngfpfihkclaa", sum := "8dd3972e46c40f61eac7a1750ecc01f3f103907daedc8960e5e7862c65479731", func := "loop.example/g01108/laws.FnFacePosets", spec := "fnFacePosets", recurses := true, plainKeys := false, apart := false, narrowed := true }
def FnFacePosetsUptoSaid : Prop := fnFacePosetsUptoRow.holds Try.pinned (OpenSpec.upto fnFacePosetsSpec)

/-- 'laws.FnOpposites', WHERE WHAT IT READS IS OF BULK AT MOST 1048576: true; the input reads as it did. -/
def fnOppositesUptoRow : OpenClaim := { program := "ytnfngfpfihkclaa", sum := "8dd3972e46c40f61eac7a1750ecc01f3f103907daedc8960e5e7862c65479731", func := "loop.example/g01108/laws.FnOpposites", spec := "fnOpposites", unfollowed := true, recurses := true, plainKeys := false, apart := false, narrowed := true }
def FnOppositesUptoSaid : Prop := fnOppositesUptoRow.holds Try.pinned (OpenSpec.upto fnOppositesSpec)

/-- 'laws.FnExactFacePoset', WHERE WHAT IT READS IS OF BULK AT MOST 1048576: true; the input reads as it did. -/
def fnExactFacePosetUptoRow : OpenClaim := { program := "ytnfngfpfihkclaa", sum := "8dd3972e46c40f61eac7a1750ecc01f3f103907daedc8960e5e7862c65479731", func := "loop.example/g01108/laws.FnExactFacePoset", spec := "fnExactFacePoset", recurses := true, plainKeys := false, apart := false, narrowed := true }
def FnExactFacePosetUptoSaid : Prop := fnExactFacePosetUptoRow.holds Try.pinned (OpenSpec.upto fnExactFacePosetSpec)

/-- 'laws.FnExactFlagsOf', WHERE WHAT IT READS IS OF BULK AT MOST 1048576: true; the input reads as it did. -/
def fnExactFlagsOfUptoRow : OpenClaim := { program := "ytnfngfpfihkclaa", sum := "8dd3972e46c40f61eac7a1750ecc01f3f103907daedc8960e5e7862c65479731", func := "loop.example/g01108/laws.FnExactFlagsOf", spec := "fnExactFlagsOf", unfollowed := true, recurses := true, plainKeys := false, apart := false, narrowed := true }
def FnExactFlagsOfUptoSaid : Prop := fnExactFlagsOfUptoRow.holds Try.pinned (OpenSpec.upto fnExactFlagsOfSpec)

/-- 'laws.FnExactDiamondFault', WHERE WHAT IT READS IS OF BULK AT MOST 1048576: true; the input reads as it did. -/
def fnExactDiamondFaultUptoRow : OpenClaim := { program := "ytnfngfpfihkclaa", sum := "8dd3972e46c40f61eac7a1750ecc01f3f103907daedc8960e5e7862c65479731", func := "loop.example/g01108/laws.FnExactDiamondFault", spec := "fnExactDiamondFault", unfollowed := true, recurses := true, plainKeys := false, apart := false, narrowed := true }
def FnExactDiamondFaultUptoSaid : Prop := fnExactDiamondFaultUptoRow.holds Try.pinned (OpenSpec.upto fnExactDiamondFaultSpec)

/-- 'laws.FnExactIsPure', WHERE WHAT IT READS IS OF BULK AT MOST 1048576: true; the input reads as it did. -/
def fnExactIsPureUptoRow : OpenClaim := { program := "ytnfngfpfihkclaa", sum := "8dd3972e46c40f61eac7a1750ecc01f3f103907daedc8960e5e7862c65479731", func := "loop.example/g01108/laws.FnExactIsPure", spec := "fnExactIsPure", unfollowed := true, recurses := true, plainKeys := false, apart := false, narrowed := true }
def FnExactIsPureUptoSaid : Prop := fnExactIsPureUptoRow.holds Try.pinned (OpenSpec.upto fnExactIsPureSpec)

/-- 'laws.FnExactConnectionFault', WHERE WHAT IT READS IS OF BULK AT MOST 1048576: true; the input reads as it did. -/
def fnExactConnectionFaultUptoRow : OpenClaim := { program := "ytnfngfpfihkclaa", sum := "8dd3972e46c40f61eac7a1750ecc01f3f103907daedc8960e5e7862c65479731", func := "loop.example/g01108/laws.FnExactConnectionFault", spec := "fnExactConnectionFault", unfollowed := true, recurses := true, plainKeys := false, apart := false, narrowed := true }
def FnExactConnectionFaultUptoSaid : Prop := fnExactConnectionFaultUptoRow.holds Try.pinned (OpenSpec.upto fnExactConnectionFaultSpec)

/-- 'laws.FnExactIsPolytope', WHERE WHAT IT READS IS OF BULK AT MOST 1048576: true; the input reads as it did. -/
def fnExactIsPolytopeUptoRow : OpenClaim := { program := "ytnfngfpfihkclaa", sum := "8dd3972e46c40f61eac7a1750ecc01f3f103907daedc8960e5e7862c65479731", func := "loop.example/g01108/laws.FnExactIsPolytope", spec := "fnExactIsPolytope", unfollowed := true, recurses := true, plainKeys := false, apart := false, narrowed := true }
def FnExactIsPolytopeUptoSaid : Prop := fnExactIsPolytopeUptoRow.holds Try.pinned (OpenSpec.upto fnExactIsPolytopeSpec)

/-- 'laws.FnExactManiplexOf', WHERE WHAT IT READS IS OF BULK AT MOST 1048576: true; the input reads as it did. -/
def fnExactManiplexOfUptoRow : OpenClaim := { program := "ytnfngfpfihkclaa", sum := "8dd3972e46c40f61eac7a1750ecc01f3f103907daedc8960e5e7862c65479731", func := "loop.example/g01108/laws.FnExactManiplexOf", spec := "fnExactManiplexOf", unfollowed := true, recurses := true, plainKeys := false, apart := false, narrowed := true }
def FnExactManiplexOfUptoSaid : Prop := fnExactManiplexOfUptoRow.holds Try.pinned (OpenSpec.upto fnExactManiplexOfSpec)

end Rows
end Go.Proofs.Ytnfngfpfihkclaa
