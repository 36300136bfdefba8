/- spec.l05Singles, PetrieOf. -/
import Derived.Test.YtckmmgepoccopaaTh
namespace Go.Proofs.Ytckmmgepoccopaa
open Go.RowKit

def sglW (N : Nat) : List (List Int) := (List.range N).map fun (j : Nat) => [(j : Int)]
def petW (N : Nat) : List (List Int) := (sglW N).set (N - 3) [((N - 3 : Nat) : Int), ((N - 1 : Nat) : Int)]
theorem sglW_len (N : Nat) : (sglW N).length = N := by simp [sglW]
theorem petW_len (N : Nat) : (petW N).length = N := by simp [petW, sglW_len]
theorem sglW_succ {N k : Nat} (h : k < N) : (sglW N).take (k + 1) = (sglW N).take k ++ [[(k : Int)]] := by
  rw [List.take_add_one]
  simp [sglW, h]
theorem sglW_ok {xss : List (List Int)} {N : Nat} (hx : xss.length = N) : ∀ wd ∈ sglW N, wordOk xss wd = true ∧ (wd.length : Int) ≤ 1048576 := fun wd h => by
  obtain ⟨j, hj, rfl⟩ := List.mem_map.1 h
  have := List.mem_range.1 hj
  exact ⟨decide_eq_true fun x hx' => by simp at hx'; omega, by simp⟩
theorem petW_ok {xss : List (List Int)} {N : Nat} (hx : xss.length = N) (h3 : 3 ≤ N) : ∀ wd ∈ petW N, wordOk xss wd = true ∧ (wd.length : Int) ≤ 1048576 := fun wd h => by
  rcases List.mem_or_eq_of_mem_set h with h | rfl
  · exact sglW_ok hx wd h
  · exact ⟨decide_eq_true fun x hx' => by simp at hx'; omega, by simp⟩
noncomputable def peR (xss : List (List Int)) : List (List Int) := if okMan xss = true ∧ 3 ≤ xss.length ∧ okMan (repL xss (flN xss) (petW xss.length)) = true then repL xss (flN xss) (petW xss.length) else []
noncomputable def peC (xss : List (List Int)) : Int := if okMan xss = true then (if 3 ≤ xss.length ∧ okMan (repL xss (flN xss) (petW xss.length)) = true then 0 else 5) else 1

end Go.Proofs.Ytckmmgepoccopaa
