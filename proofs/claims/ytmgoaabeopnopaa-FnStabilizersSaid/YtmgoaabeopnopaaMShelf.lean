/-
  DERIVED: THE SHELF's CONTRACTS AT THIS DUMP, IN PLAIN WORDS (tools/lay-plain.mjs out of 'YtmgoaabeopnopaaMShelf.lean', which tools/lay-shelf.mjs wrote): THE SAME DECLARATIONS UNDER THE SAME NAMES: 'import', 'namespace', 'open', 'def', 'theorem' AND NOTHING ELSE: no command of the shelf's: FOR A HAND-IN. Each laying: the table of numbers ('.._ren') and one theorem, a field a fact of the dump's own or the kernel's comparison; each contract: ONE APPLICATION.
-/
import Derived.Shelf.SlGeneric
import Derived.Shelf.Bits.Mul64
import Derived.Test.YtmgoaabeopnopaaProg
namespace Go.Proofs
open Go.Shelf
def Try.l212_ren : Go.Shelf.Ren := ⟨fun | 212 => 179 | 263 => 187 | 264 => 188 | n => n, fun | 46 => 117 | 51 => 165 | 146 => 166 | 53 => 65 | 148 => 168 | n => n, fun | n => n⟩
theorem Try.l212 : Go.Proofs.Lays.n212 Try.prog Try.l212_ren := {
  mixed := by kernel_rfl
  f212 := Try.func179.trans (congrArg some (by kernel_rfl))
  f263 := Try.func187.trans (congrArg some (by kernel_rfl))
  f264 := Try.func188.trans (congrArg some (by kernel_rfl))
  t46 := Try.underlying117
  a46 := Try.isAgg117
  z46 := Try.sizeOf117
  v46 := Try.zeroValue117
  t51 := Try.underlying165
  a51 := Try.isAgg165
  z51 := Try.sizeOf165
  v51 := Try.zeroValue165
  t53 := Try.underlying65
  a53 := Try.isAgg65
  z53 := Try.sizeOf65
  v53 := Try.zeroValue65
  t146 := Try.underlying166
  a146 := Try.isAgg166
  z146 := Try.sizeOf166
  v146 := Try.zeroValue166
  t148 := Try.underlying168
  a148 := Try.isAgg168
  z148 := Try.sizeOf168
  v148 := Try.zeroValue168 }
end Go.Proofs
