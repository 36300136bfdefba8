/- spec.HoleOf. -/
import Derived.Test.YtmgoaabeopnopaaL15
namespace Go.Proofs.Ytmgoaabeopnopaa
open Go.RowKit

def hwL : Nat → List Int
  | 0 => [1]
  | t + 1 => hwL t ++ [2, 1]
def holW (k : Nat) : List (List Int) := [[0], hwL (k - 1), [2]]
theorem hwL_len : ∀ t, (hwL t).length = 1 + 2 * t
  | 0 => rfl
  | t + 1 => by simp [hwL, hwL_len t]; omega
theorem hwL_in : ∀ (t : Nat) (x : Int), x ∈ hwL t → 1 ≤ x ∧ x ≤ 2
  | 0, x, h => by simp [hwL] at h; omega
  | t + 1, x, h => by
    rcases List.mem_append.1 h with h | h
    · exact hwL_in t x h
    · simp at h; omega
theorem holW_ok {xss : List (List Int)} {k : Nat} (hk : k ≤ 20) (hx : xss.length = 3) : ∀ wd ∈ holW k, wordOk xss wd = true ∧ (wd.length : Int) ≤ 1048576 := fun wd hwd => by
  unfold holW at hwd
  simp only [List.mem_cons, List.not_mem_nil, or_false] at hwd
  rcases hwd with rfl | rfl | rfl
  · exact ⟨decide_eq_true fun x hx' => by simp at hx'; omega, by simp⟩
  · exact ⟨decide_eq_true fun x hx' => by have := hwL_in _ x hx'; omega, by rw [hwL_len]; omega⟩
  · exact ⟨decide_eq_true fun x hx' => by simp at hx'; omega, by simp⟩
noncomputable def hoR (xss : List (List Int)) (k : Int) : List (List Int) := if okMan xss = true ∧ 1 ≤ k ∧ k ≤ 20 then thR xss (flN xss) (holW k.toNat) else []
noncomputable def hoC (xss : List (List Int)) (k : Int) : Int := if okMan xss = true then (if 1 ≤ k ∧ k ≤ 20 then thC xss (flN xss) (holW k.toNat) else 2) else 1

end Go.Proofs.Ytmgoaabeopnopaa
