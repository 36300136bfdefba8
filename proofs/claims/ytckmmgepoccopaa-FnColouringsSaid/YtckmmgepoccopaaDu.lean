/- spec.l05Dual, DualOf. -/
import Derived.Test.YtckmmgepoccopaaWr
import Derived.Test.YtckmmgepoccopaaStm
namespace Go.Proofs.Ytckmmgepoccopaa
open Go.RowKit

/-- The words of single moves, in reverse order. -/
def dualW (N : Nat) : List (List Int) := (List.range N).map fun (j : Nat) => [((N - 1 - j : Nat) : Int)]
noncomputable def dualL (xss : List (List Int)) (n : Nat) : List (List Int) := repL xss n (dualW xss.length)
noncomputable def duR (xss : List (List Int)) : List (List Int) := if okMan xss = true then dualL xss (flN xss) else []
noncomputable def duC (xss : List (List Int)) : Int := if okMan xss = true then 0 else 1
theorem dualW_len (N : Nat) : (dualW N).length = N := by simp [dualW]
theorem dualW_succ {N k : Nat} (h : k < N) : (dualW N).take (k + 1) = (dualW N).take k ++ [[((N - 1 - k : Nat) : Int)]] := by
  rw [List.take_add_one]
  simp [dualW, h]
theorem dualW_ok {xss : List (List Int)} {N : Nat} (hx : xss.length = N) : ∀ wd ∈ dualW N, wordOk xss wd = true ∧ (wd.length : Int) ≤ 1048576 := fun wd h => by
  obtain ⟨j, hj, rfl⟩ := List.mem_map.1 h
  have := List.mem_range.1 hj
  exact ⟨decide_eq_true fun x hx' => by simp at hx'; omega, by simp⟩
theorem repL_len {xss wss : List (List Int)} {n : Nat} : (repL xss n wss).length = wss.length := by rw [repL, secL_len, wdsL_len]

end Go.Proofs.Ytckmmgepoccopaa
