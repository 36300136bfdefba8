/-
  DERIVED: THE SHELF's CONTRACTS AT THIS DUMP, IN PLAIN WORDS (tools/lay-plain.mjs out of 'YtnfngfpfihkclaaMShelf.lean', which tools/lay-shelf.mjs wrote): THE SAME DECLARATIONS UNDER THE SAME NAMES: 'import', 'namespace', 'open', 'def', 'theorem' AND NOTHING ELSE: no command of the shelf's: FOR A HAND-IN. Each laying: the table of numbers ('.._ren') and one theorem, a field a fact of the dump's own or the kernel's comparison; each contract: ONE APPLICATION.
-/
import Derived.Shelf.SlGeneric
import Derived.Shelf.Bits.Mul64
import Derived.Test.YtnfngfpfihkclaaProg
namespace Go.Proofs
open Go.Shelf
def Try.l212_ren : Go.Shelf.Ren := ⟨fun | 212 => 160 | 263 => 176 | 264 => 177 | n => n, fun | 46 => 79 | 51 => 158 | 146 => 162 | 53 => 41 | 148 => 164 | n => n, fun | n => n⟩
theorem Try.l212 : Go.Proofs.Lays.n212 Try.prog Try.l212_ren := {
  mixed := by kernel_rfl
  f212 := Try.func160.trans (congrArg some (by kernel_rfl))
  f263 := Try.func176.trans (congrArg some (by kernel_rfl))
  f264 := Try.func177.trans (congrArg some (by kernel_rfl))
  t46 := Try.underlying79
  a46 := Try.isAgg79
  z46 := Try.sizeOf79
  v46 := Try.zeroValue79
  t51 := Try.underlying158
  a51 := Try.isAgg158
  z51 := Try.sizeOf158
  v51 := Try.zeroValue158
  t53 := Try.underlying41
  a53 := Try.isAgg41
  z53 := Try.sizeOf41
  v53 := Try.zeroValue41
  t146 := Try.underlying162
  a146 := Try.isAgg162
  z146 := Try.sizeOf162
  v146 := Try.zeroValue162
  t148 := Try.underlying164
  a148 := Try.isAgg164
  z148 := Try.sizeOf164
  v148 := Try.zeroValue164 }
end Go.Proofs
