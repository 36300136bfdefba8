/- Lengths of the answers of the operations. -/
import Derived.Test.YtmikoihpmhfafaaDum
import Derived.Test.YtmikoihpmhfafaaRm
import Derived.Test.YtmikoihpmhfafaaExt
import Derived.Test.YtmikoihpmhfafaaPel
namespace Go.Proofs.Ytmikoihpmhfafaa
open Go.RowKit

theorem man_le {L : List (List Int)} (h : okMan L = true) : L.length ≤ 1048576 ∧ ∀ xs ∈ L, (xs.length : Int) ≤ 1048576 := by
  have hm := okMan_iff.1 h
  have h1 := hm.r5
  have h2 := hm.f4
  exact ⟨by omega, fun xs hx => by have := hm.rows xs hx; omega⟩
theorem nil_le : ([] : List (List Int)).length ≤ 1048576 ∧ ∀ xs ∈ ([] : List (List Int)), (xs.length : Int) ≤ 1048576 := ⟨by simp, fun xs hx => by simp at hx⟩
theorem duR_le (xss : List (List Int)) : (duR xss).length ≤ 1048576 ∧ ∀ xs ∈ duR xss, (xs.length : Int) ≤ 1048576 := by
  unfold duR
  split
  · rename_i h; exact man_le (dual_man h)
  · exact nil_le
theorem peR_le (xss : List (List Int)) : (peR xss).length ≤ 1048576 ∧ ∀ xs ∈ peR xss, (xs.length : Int) ≤ 1048576 := by
  unfold peR
  split
  · rename_i h; exact man_le h.2.2
  · exact nil_le
theorem thR_le (xss : List (List Int)) (n : Nat) (wss : List (List Int)) : (thR xss n wss).length ≤ 1048576 ∧ ∀ xs ∈ thR xss n wss, (xs.length : Int) ≤ 1048576 := by
  unfold thR
  split
  · rename_i h; exact man_le h.2
  · exact nil_le
theorem op5R_le (xss : List (List Int)) : (op5R xss).length ≤ 1048576 ∧ ∀ xs ∈ op5R xss, (xs.length : Int) ≤ 1048576 := by
  unfold op5R
  split
  · exact thR_le _ _ _
  · exact nil_le
theorem ha5R_le (xss : List (List Int)) : (ha5R xss).length ≤ 1048576 ∧ ∀ xs ∈ ha5R xss, (xs.length : Int) ≤ 1048576 := by
  unfold ha5R
  split
  · exact thR_le _ _ _
  · exact nil_le
theorem hoR_le (xss : List (List Int)) (k : Int) : (hoR xss k).length ≤ 1048576 ∧ ∀ xs ∈ hoR xss k, (xs.length : Int) ≤ 1048576 := by
  unfold hoR
  split
  · exact thR_le _ _ _
  · exact nil_le
theorem rmR_le (xss wss : List (List Int)) : (rmR xss wss).length ≤ 1048576 ∧ ∀ xs ∈ rmR xss wss, (xs.length : Int) ≤ 1048576 := by
  unfold rmR
  split
  · rename_i h; exact man_le h.2.2
  · exact nil_le
theorem exR_le (inner : Bool) (xss : List (List Int)) : (exR inner xss).length ≤ 1048576 ∧ ∀ xs ∈ exR inner xss, (xs.length : Int) ≤ 1048576 := by
  unfold exR
  split
  · rename_i h
    have hm := okMan_iff.1 h.1
    have h5 := hm.r5
    refine ⟨by rw [exL_len]; omega, fun xs hx => ?_⟩
    have : xs.length = 2 * flN xss := by
      unfold exL at hx
      split at hx
      · rcases List.mem_cons.1 hx with rfl | hx
        · exact tuL_len _
        · obtain ⟨m, _, rfl⟩ := List.mem_map.1 hx
          exact mvL_len _ _
      · rcases List.mem_append.1 hx with hx | hx
        · obtain ⟨m, _, rfl⟩ := List.mem_map.1 hx
          exact mvL_len _ _
        · simp at hx
          subst hx
          exact tuL_len _
    omega
  · exact nil_le
theorem plR_le (xss : List (List Int)) : (plR xss).length ≤ 1048576 := by
  unfold plR
  split
  · rename_i h
    have := (okMan_iff.1 h).f4
    rw [perL_len, wpL_len]
    omega
  · simp
end Go.Proofs.Ytmikoihpmhfafaa
