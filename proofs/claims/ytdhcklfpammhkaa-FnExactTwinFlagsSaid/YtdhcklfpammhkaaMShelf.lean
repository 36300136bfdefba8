/-
  DERIVED: THE SHELF's CONTRACTS AT THIS DUMP, IN PLAIN WORDS (tools/lay-plain.mjs out of 'YtdhcklfpammhkaaMShelf.lean', which tools/lay-shelf.mjs wrote): THE SAME DECLARATIONS UNDER THE SAME NAMES: 'import', 'namespace', 'open', 'def', 'theorem' AND NOTHING ELSE: no command of the shelf's: FOR A HAND-IN. Each laying: the table of numbers ('.._ren') and one theorem, a field a fact of the dump's own or the kernel's comparison; each contract: ONE APPLICATION.
-/
import Derived.Shelf.SlGeneric
import Derived.Shelf.Bits.Mul64
import Derived.Test.YtdhcklfpammhkaaProg
namespace Go.Proofs
open Go.Shelf
def Try.l212_ren : Go.Shelf.Ren := ⟨fun | 212 => 299 | 263 => 304 | 264 => 305 | n => n, fun | 46 => 112 | 51 => 204 | 146 => 240 | 53 => 33 | 148 => 242 | n => n, fun | n => n⟩
theorem Try.l212 : Go.Proofs.Lays.n212 Try.prog Try.l212_ren := {
  mixed := by kernel_rfl
  f212 := Try.func299.trans (congrArg some (by kernel_rfl))
  f263 := Try.func304.trans (congrArg some (by kernel_rfl))
  f264 := Try.func305.trans (congrArg some (by kernel_rfl))
  t46 := Try.underlying112
  a46 := Try.isAgg112
  z46 := Try.sizeOf112
  v46 := Try.zeroValue112
  t51 := Try.underlying204
  a51 := Try.isAgg204
  z51 := Try.sizeOf204
  v51 := Try.zeroValue204
  t53 := Try.underlying33
  a53 := Try.isAgg33
  z53 := Try.sizeOf33
  v53 := Try.zeroValue33
  t146 := Try.underlying240
  a146 := Try.isAgg240
  z146 := Try.sizeOf240
  v146 := Try.zeroValue240
  t148 := Try.underlying242
  a148 := Try.isAgg242
  z148 := Try.sizeOf242
  v148 := Try.zeroValue242 }
end Go.Proofs
