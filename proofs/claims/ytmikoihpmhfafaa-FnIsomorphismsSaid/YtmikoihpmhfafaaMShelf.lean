/-
  DERIVED: THE SHELF's CONTRACTS AT THIS DUMP, IN PLAIN WORDS (tools/lay-plain.mjs out of 'YtmikoihpmhfafaaMShelf.lean', which tools/lay-shelf.mjs wrote): THE SAME DECLARATIONS UNDER THE SAME NAMES: 'import', 'namespace', 'open', 'def', 'theorem' AND NOTHING ELSE: no command of the shelf's: FOR A HAND-IN. Each laying: the table of numbers ('.._ren') and one theorem, a field a fact of the dump's own or the kernel's comparison; each contract: ONE APPLICATION.
-/
import Derived.Shelf.SlGeneric
import Derived.Shelf.Bits.Mul64
import Derived.Test.YtmikoihpmhfafaaProg
namespace Go.Proofs
open Go.Shelf
def Try.l212_ren : Go.Shelf.Ren := ⟨fun | 212 => 208 | 263 => 216 | 264 => 217 | n => n, fun | 46 => 107 | 51 => 177 | 146 => 178 | 53 => 50 | 148 => 180 | n => n, fun | n => n⟩
theorem Try.l212 : Go.Proofs.Lays.n212 Try.prog Try.l212_ren := {
  mixed := by kernel_rfl
  f212 := Try.func208.trans (congrArg some (by kernel_rfl))
  f263 := Try.func216.trans (congrArg some (by kernel_rfl))
  f264 := Try.func217.trans (congrArg some (by kernel_rfl))
  t46 := Try.underlying107
  a46 := Try.isAgg107
  z46 := Try.sizeOf107
  v46 := Try.zeroValue107
  t51 := Try.underlying177
  a51 := Try.isAgg177
  z51 := Try.sizeOf177
  v51 := Try.zeroValue177
  t53 := Try.underlying50
  a53 := Try.isAgg50
  z53 := Try.sizeOf50
  v53 := Try.zeroValue50
  t146 := Try.underlying178
  a146 := Try.isAgg178
  z146 := Try.sizeOf178
  v146 := Try.zeroValue178
  t148 := Try.underlying180
  a148 := Try.isAgg180
  z148 := Try.sizeOf180
  v148 := Try.zeroValue180 }
end Go.Proofs
