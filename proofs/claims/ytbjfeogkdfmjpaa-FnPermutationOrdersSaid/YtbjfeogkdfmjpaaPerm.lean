/- Plain facts on permutations as lists; no program. -/
import Derived.Test.YtbjfeogkdfmjpaaBase
namespace Go.Proofs.Ytbjfeogkdfmjpaa

/-- Each of 0 .. length - 1 once. -/
def IsP (xs : List Int) : Prop := (∀ x ∈ xs, 0 ≤ x ∧ x < (xs.length : Int)) ∧ xs.Nodup
instance (xs : List Int) : Decidable (IsP xs) := inferInstanceAs (Decidable (_ ∧ _))
def okP (xs : List Int) : Bool := decide (xs.length ≤ 400 ∧ IsP xs)

def seenL (n : Nat) (l : List Int) : List Value := (List.range n).map fun (j : Nat) => .bool (decide ((j : Int) ∈ l))
theorem seenL_length (n : Nat) (l : List Int) : (seenL n l).length = n := by simp [seenL]
theorem seenL_at {n m : Nat} {l : List Int} (h : m < n) : (seenL n l)[m]? = some (.bool (decide ((m : Int) ∈ l))) := by simp [seenL, h]
theorem seenL_nil (n : Nat) : seenL n [] = List.replicate n (.bool false) := by
  apply List.ext_getElem (by simp [seenL])
  intro i h1 h2
  simp [seenL]
theorem seenL_set {n m : Nat} {l : List Int} : (seenL n l).set m (.bool true) = seenL n (l ++ [(m : Int)]) := by
  apply List.ext_getElem (by simp [seenL])
  intro i h1 h2
  rw [List.getElem_set]
  by_cases e : m = i
  · subst e
    simp [seenL]
  · rw [if_neg e]
    have e' : ¬ (i : Int) = (m : Int) := by omega
    simp [seenL, e']

theorem mem_of_get {xs : List Int} {k : Nat} {x : Int} (h : xs[k]? = some x) : x ∈ xs := List.mem_of_getElem? h
theorem not_ok_range {xs : List Int} {n k : Nat} {x : Int} (hn : xs.length = n) (hx : xs[k]? = some x) (h : x < 0 ∨ (n : Int) ≤ x) : okP xs = false := by
  apply decide_eq_false
  rintro ⟨_, hp, _⟩
  have := hp x (mem_of_get hx)
  rw [hn] at this
  omega
theorem not_ok_long {xs : List Int} {n : Nat} (hn : xs.length = n) (h : 400 < n) : okP xs = false := decide_eq_false (by rintro ⟨h1, _⟩; omega)
theorem not_ok_seen {xs : List Int} {k : Nat} {x : Int} (hx : xs[k]? = some x) (h : x ∈ xs.take k) : okP xs = false := by
  apply decide_eq_false
  rintro ⟨_, _, hd⟩
  obtain ⟨j, hj, he⟩ := List.mem_iff_getElem.1 h
  have hk : k < xs.length := (List.getElem?_eq_some_iff.1 hx).1
  have hj' : j < k := by have := hj; simp at this; omega
  rw [List.getElem_take] at he
  have hxe : xs[k] = x := (List.getElem?_eq_some_iff.1 hx).2
  exact List.pairwise_iff_getElem.1 hd j k (Nat.lt_trans hj' hk) hk hj' (he.trans hxe.symm)
/-- What holds of the first k elements while no fault has been found. -/
def goodTo (xs : List Int) (n k : Nat) : Prop := (∀ x ∈ xs.take k, 0 ≤ x ∧ x < (n : Int)) ∧ (xs.take k).Nodup
theorem goodTo_zero (xs : List Int) (n : Nat) : goodTo xs n 0 := by simp [goodTo]
theorem goodTo_succ {xs : List Int} {n k m : Nat} (h : goodTo xs n k) (hx : xs[k]? = some (m : Int)) (hm : m < n) (hs : ¬ (m : Int) ∈ xs.take k) : goodTo xs n (k + 1) := by
  unfold goodTo at h ⊢
  rw [List.take_add_one, hx]
  refine ⟨fun x hx => ?_, ?_⟩
  · rcases List.mem_append.1 hx with h1 | h1
    · exact h.1 x h1
    · simp at h1; omega
  · rw [List.nodup_append]
    refine ⟨h.2, by simp, fun a ha b hb => ?_⟩
    simp at hb
    subst hb
    rintro rfl
    exact hs ha
theorem goodTo_all {xs : List Int} {n k : Nat} (hn : xs.length = n) (h4 : n ≤ 400) (hk : n ≤ k) (h : goodTo xs n k) : okP xs = true := by
  unfold goodTo at h
  rw [List.take_of_length_le (by omega)] at h
  exact decide_eq_true ⟨by omega, by unfold IsP; rw [hn]; exact h⟩
end Go.Proofs.Ytbjfeogkdfmjpaa
