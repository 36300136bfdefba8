/- spec.OppositePoset, impl.OppositePoset. -/
import Derived.Test.YtmgoaabeopnopaaPr
import Derived.Deep.AppendLies
import Derived.Deep.RegionLaw
import Derived.Deep.CutRange
namespace Go.Proofs.Ytmgoaabeopnopaa
open Go.RowKit

open Classical in
noncomputable def opPR (R : Int) (xs : List Int) (bss : List (List Int)) : Int := if posB R xs bss = true then R else 0
open Classical in
noncomputable def opPX (R : Int) (xs : List Int) (bss : List (List Int)) : List Int := if posB R xs bss = true then opX R xs else []
open Classical in
noncomputable def opPB (R : Int) (xs : List Int) (bss : List (List Int)) : List (List Int) := if posB R xs bss = true then opB bss else []
noncomputable def opPC (R : Int) (xs : List Int) (bss : List (List Int)) : Int := if posB R xs bss = true then 0 else 1

theorem opPX_le (R : Int) (xs : List Int) (bss : List (List Int)) : (opPX R xs bss).length ≤ 1048576 := by
  unfold opPX
  split
  · rename_i h
    have := (pB_iff.1 h).ranks.n
    rw [opX_len]
    omega
  · simp
theorem opPB_le (R : Int) (xs : List Int) (bss : List (List Int)) : (opPB R xs bss).length ≤ 1048576 ∧ ∀ b ∈ opPB R xs bss, (b.length : Int) ≤ 1048576 := by
  unfold opPB
  split
  · rename_i h
    have h1 := (pB_iff.1 h).ranks.n
    have h2 := (pB_iff.1 h).ranks.len
    refine ⟨by rw [opB_len]; omega, fun b hb => ?_⟩
    have := opB_row b hb
    omega
  · simp
end Go.Proofs.Ytmgoaabeopnopaa
