/- impl.identityOf, singleWords; slices.Reverse; growing by append. -/
import Derived.Test.YtmgoaabeopnopaaL15
import Derived.Shelf.SlicesG.Reverse
import Derived.ArgAppend
namespace Go.Proofs.Ytmgoaabeopnopaa
open Go.RowKit

/-- The cells vals are slices that read the rows xss. -/
def RowsAt (w : World) (vals : List Value) (xss : List (List Int)) : Prop :=
  vals.length = xss.length ∧ ∀ (j : Nat) (xs : List Int), xss[j]? = some xs → ∃ (A' : Option Addr) (c' : Nat), vals[j]? = some (Value.slice A' xs.length c') ∧ Rd w A' (ints xs) ∧ xs.length ≤ 9223372036854775807
section
variable {w w' : World} {A : Option Addr} {vals : List Value} {xss : List (List Int)} {ys : List Int} {p m c : Nat}
theorem RowsAt.keep (h : RowsAt w vals xss) (hb : Below w.heap.size w w') : RowsAt w' vals xss :=
  ⟨h.1, fun j xs hj => by obtain ⟨A', c', h1, h2, h3⟩ := h.2 j xs hj; exact ⟨A', c', h1, h2.keep hb, h3⟩⟩
theorem RowsAt.set (h : RowsAt w vals xss) (hd : Rd w A (ints ys)) (hl : ys.length = m) (hm : m ≤ 1048576) : RowsAt w (vals.set p (.slice A m c)) (xss.set p ys) := by
  subst hl
  refine ⟨by simp [h.1], fun j xs hj => ?_⟩
  by_cases e : p = j
  · subst e
    have hp : p < xss.length := by have := (List.getElem?_eq_some_iff.1 hj).1; simpa using this
    rw [List.getElem?_set_self hp] at hj
    injection hj with hj
    subst hj
    exact ⟨A, c, by rw [List.getElem?_set_self (by rw [h.1]; exact hp)], hd, by omega⟩
  · rw [List.getElem?_set_ne e] at hj ⊢
    exact h.2 j xs hj
end
end Go.Proofs.Ytmgoaabeopnopaa
