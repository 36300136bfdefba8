/- slices.Equal at []int64; twin flags of both programs. -/
import Derived.Test.YtmfddenjemoedaaFg
namespace Go.Proofs.Ytmfddenjemoedaa
open Go.RowKit

/-- The flags f and g have the same faces of all N ranks. -/
def Tw (xss : List (List Int)) (n N f g : Nat) : Prop := ∀ i, i < N → (facL xss n i).getD f 0 = (facL xss n i).getD g 0
theorem tw_row {xss : List (List Int)} {n N f g : Nat} : fcRow xss n N f = fcRow xss n N g ↔ Tw xss n N f g := by
  constructor
  · intro h i hi
    have h1 : (fcRow xss n N f)[i]? = (fcRow xss n N g)[i]? := by rw [h]
    simp [fcRow, hi] at h1
    simpa using h1
  · intro h
    unfold fcRow
    apply List.map_congr_left
    intro i hi
    rw [h i (by simpa using hi)]
/-- The list is the first pair of twins. -/
def TwOk (xss : List (List Int)) (n N : Nat) (L : List Int) : Prop :=
  ∃ f g : Nat, L = [(f : Int), (g : Int)] ∧ f < g ∧ g < n ∧ Tw xss n N f g ∧ ∀ f' g' : Nat, f' < g' → g' < n → (f' < f ∨ (f' = f ∧ g' < g)) → ¬ Tw xss n N f' g'
theorem twOk_uniq {xss : List (List Int)} {n N : Nat} {L L' : List Int} (h : TwOk xss n N L) (h' : TwOk xss n N L') : L = L' := by
  obtain ⟨f, g, rfl, h1, h2, h3, h4⟩ := h
  obtain ⟨f', g', rfl, h5, h6, h7, h8⟩ := h'
  have a1 : ¬ (f' < f ∨ (f' = f ∧ g' < g)) := fun h => h4 f' g' h5 h6 h h7
  have a2 : ¬ (f < f' ∨ (f = f' ∧ g < g')) := fun h => h8 f g h1 h2 h h3
  obtain rfl : f = f' := by omega
  obtain rfl : g = g' := by omega
  rfl
open Classical in
noncomputable def twR (xss : List (List Int)) : List Int := if okMan xss = true then (if h : ∃ L, TwOk xss (flN xss) xss.length L then h.choose else []) else []
open Classical in
noncomputable def twC (xss : List (List Int)) : Int := if okMan xss = true then (if ∃ L, TwOk xss (flN xss) xss.length L then 0 else 4) else 1
theorem twR_no {xss : List (List Int)} (h : okMan xss = false) : twR xss = [] ∧ twC xss = 1 := by simp [twR, twC, h]
theorem twR_yes {xss : List (List Int)} {L : List Int} (h : okMan xss = true) (ht : TwOk xss (flN xss) xss.length L) : twR xss = L ∧ twC xss = 0 := by
  have he : ∃ L, TwOk xss (flN xss) xss.length L := ⟨L, ht⟩
  refine ⟨?_, ?_⟩
  · unfold twR
    rw [if_pos h, dif_pos he]
    exact twOk_uniq he.choose_spec ht
  · unfold twC
    rw [if_pos h, if_pos he]
theorem twR_none {xss : List (List Int)} (h : okMan xss = true) (ht : ∀ f g : Nat, f < g → g < flN xss → ¬ Tw xss (flN xss) xss.length f g) : twR xss = [] ∧ twC xss = 4 := by
  have he : ¬ ∃ L, TwOk xss (flN xss) xss.length L := fun ⟨L, f, g, _, h1, h2, h3, _⟩ => ht f g h1 h2 h3
  refine ⟨?_, ?_⟩
  · unfold twR
    rw [if_pos h, dif_neg he]
  · unfold twC
    rw [if_pos h, if_neg he]
theorem twR_le (xss : List (List Int)) : (twR xss).length ≤ 1048576 := by
  unfold twR
  split
  · split
    · rename_i h
      obtain ⟨f, g, h1, _⟩ := h.choose_spec
      rw [h1]; simp
    · simp
  · simp
end Go.Proofs.Ytmfddenjemoedaa
