/-
  DERIVED: THE SHELF's CONTRACTS AT THIS DUMP, IN PLAIN WORDS (tools/lay-plain.mjs out of 'YtdhcklfpammhkaaShelf.lean', which tools/lay-shelf.mjs wrote): THE SAME DECLARATIONS UNDER THE SAME NAMES: 'import', 'namespace', 'open', 'def', 'theorem' AND NOTHING ELSE: no command of the shelf's: FOR A HAND-IN. Each laying: the table of numbers ('.._ren') and one theorem, a field a fact of the dump's own or the kernel's comparison; each contract: ONE APPLICATION.
-/
import Derived.Shelf.SlGeneric
import Derived.Shelf.SortM.Plain
import Derived.Shelf.SortM.SortNone
import Derived.Ground.SlgmProg
import Derived.Test.YtdhcklfpammhkaaProg
namespace Go.Proofs
open Go.Shelf
def Try.l88_ren : Go.Shelf.Ren := ⟨fun | 5 => 134 | 8 => 207 | 7 => 206 | 19 => 259 | 20 => 260 | 10 => 250 | 11 => 251 | 12 => 252 | 13 => 253 | 14 => 254 | 15 => 255 | 16 => 256 | 17 => 257 | 18 => 258 | 30 => 288 | 31 => 289 | 32 => 290 | 33 => 291 | 34 => 292 | 35 => 270 | 40 => 302 | n => n, fun | 23 => 24 | 25 => 2 | 3 => 3 | 32 => 112 | 22 => 24 | 0 => 0 | 44 => 204 | 46 => 33 | 4 => 4 | 36 => 197 | 35 => 196 | 41 => 201 | 5 => 5 | 9 => 9 | 53 => 222 | 57 => 226 | 63 => 236 | 64 => 237 | n => n, fun | n => n⟩
theorem Try.l88 : Go.Proofs.SlLaysM.n5 Try.prog Try.l88_ren := {
  mixed := by kernel_rfl
  f5 := ⟨Try.f134.name, by decide, Try.func134.trans (congrArg some (by kernel_rfl))⟩
  f7 := ⟨Try.f206.name, by decide, Try.func206.trans (congrArg some (by kernel_rfl))⟩
  f8 := Try.func207.trans (congrArg some (by kernel_rfl))
  f10 := ⟨Try.f250.name, by decide, Try.func250.trans (congrArg some (by kernel_rfl))⟩
  f11 := ⟨Try.f251.name, by decide, Try.func251.trans (congrArg some (by kernel_rfl))⟩
  f12 := ⟨Try.f252.name, by decide, Try.func252.trans (congrArg some (by kernel_rfl))⟩
  f13 := ⟨Try.f253.name, by decide, Try.func253.trans (congrArg some (by kernel_rfl))⟩
  f14 := ⟨Try.f254.name, by decide, Try.func254.trans (congrArg some (by kernel_rfl))⟩
  f15 := ⟨Try.f255.name, by decide, Try.func255.trans (congrArg some (by kernel_rfl))⟩
  f16 := ⟨Try.f256.name, by decide, Try.func256.trans (congrArg some (by kernel_rfl))⟩
  f17 := ⟨Try.f257.name, by decide, Try.func257.trans (congrArg some (by kernel_rfl))⟩
  f18 := ⟨Try.f258.name, by decide, Try.func258.trans (congrArg some (by kernel_rfl))⟩
  f19 := Try.func259.trans (congrArg some (by kernel_rfl))
  f20 := Try.func260.trans (congrArg some (by kernel_rfl))
  f30 := ⟨Try.f288.name, by decide, Try.func288.trans (congrArg some (by kernel_rfl))⟩
  f31 := Try.func289.trans (congrArg some (by kernel_rfl))
  f32 := Try.func290.trans (congrArg some (by kernel_rfl))
  f33 := ⟨Try.f291.name, by decide, Try.func291.trans (congrArg some (by kernel_rfl))⟩
  f34 := ⟨Try.f292.name, by decide, Try.func292.trans (congrArg some (by kernel_rfl))⟩
  f35 := ⟨Try.f270.name, by decide, Try.func270.trans (congrArg some (by kernel_rfl))⟩
  f40 := ⟨Try.f302.name, by decide, Try.func302.trans (congrArg some (by kernel_rfl))⟩
  t0 := Try.underlying0
  a0 := Try.isAgg0
  z0 := Try.sizeOf0
  v0 := Try.zeroValue0
  t3 := Try.underlying3
  a3 := Try.isAgg3
  z3 := Try.sizeOf3
  v3 := Try.zeroValue3
  t4 := Try.underlying4
  a4 := Try.isAgg4
  z4 := Try.sizeOf4
  v4 := Try.zeroValue4
  t5 := Try.underlying5
  a5 := Try.isAgg5
  z5 := Try.sizeOf5
  v5 := Try.zeroValue5
  t9 := Try.underlying9
  a9 := Try.isAgg9
  z9 := Try.sizeOf9
  v9 := Try.zeroValue9
  t22 := Try.underlying24
  a22 := Try.isAgg24
  z22 := Try.sizeOf24
  v22 := Try.zeroValue24
  t23 := Try.underlying24
  a23 := Try.isAgg24
  z23 := Try.sizeOf24
  v23 := Try.zeroValue24
  t25 := Try.underlying2
  a25 := Try.isAgg2
  z25 := Try.sizeOf2
  v25 := Try.zeroValue2
  t32 := Try.underlying112
  a32 := Try.isAgg112
  z32 := Try.sizeOf112
  v32 := Try.zeroValue112
  t35 := Try.underlying196
  a35 := Try.isAgg196
  z35 := Try.sizeOf196
  v35 := Try.zeroValue196
  t36 := Try.underlying197
  a36 := Try.isAgg197
  z36 := Try.sizeOf197
  v36 := Try.zeroValue197
  t41 := Try.underlying201
  a41 := Try.isAgg201
  z41 := Try.sizeOf201
  v41 := Try.zeroValue201
  t44 := Try.underlying204
  a44 := Try.isAgg204
  z44 := Try.sizeOf204
  v44 := Try.zeroValue204
  t46 := Try.underlying33
  a46 := Try.isAgg33
  z46 := Try.sizeOf33
  v46 := Try.zeroValue33
  t53 := Try.underlying222
  a53 := Try.isAgg222
  z53 := Try.sizeOf222
  v53 := Try.zeroValue222
  t57 := Try.underlying226
  a57 := Try.isAgg226
  z57 := Try.sizeOf226
  v57 := Try.zeroValue226
  t63 := Try.underlying236
  a63 := Try.isAgg236
  z63 := Try.sizeOf236
  v63 := Try.zeroValue236
  t64 := Try.underlying237
  a64 := Try.isAgg237
  z64 := Try.sizeOf237
  v64 := Try.zeroValue237 }
end Go.Proofs
