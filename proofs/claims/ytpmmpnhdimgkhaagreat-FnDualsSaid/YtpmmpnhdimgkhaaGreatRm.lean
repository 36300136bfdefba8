/- spec.ReplaceMoves. -/
import Derived.Test.YtpmmpnhdimgkhaaGreatHo
namespace Go.Proofs.YtpmmpnhdimgkhaaGreat
open Go.RowKit

def wsB (xss wss : List (List Int)) : Bool := decide (1 ≤ wss.length ∧ wss.length ≤ 5) && wss.all (wordB xss)
noncomputable def rmR (xss wss : List (List Int)) : List (List Int) := if okMan xss = true ∧ wsB xss wss = true ∧ okMan (repL xss (flN xss) wss) = true then repL xss (flN xss) wss else []
noncomputable def rmC (xss wss : List (List Int)) : Int := if okMan xss = true then (if wsB xss wss = true then (if okMan (repL xss (flN xss) wss) = true then 0 else 5) else 2) else 1
theorem wordB_ok {xss : List (List Int)} {wd : List Int} (h : wordB xss wd = true) : wordOk xss wd = true ∧ (wd.length : Int) ≤ 1048576 := by
  unfold wordB at h
  simp only [Bool.and_eq_true, decide_eq_true_eq] at h
  exact ⟨h.1, by omega⟩

end Go.Proofs.YtpmmpnhdimgkhaaGreat
