/- spec.PetrieLengths. -/
import Derived.Test.YtmikoihpmhfafaaL15
import Derived.Test.YtmikoihpmhfafaaL14
namespace Go.Proofs.Ytmikoihpmhfafaa
open Go.RowKit

/-- How often one still has to go until one is back. -/
def retTo (xs : List Int) (f : Int) : Nat → Int → Nat
  | 0, _ => 0
  | t + 1, g => if g = f then 0 else 1 + retTo xs f t (fz xs g)
def perL (xs : List Int) : List Int := (List.range xs.length).map fun (f : Nat) => ((1 + retTo xs (f : Int) (xs.length - 1) (fz xs (f : Int)) : Nat) : Int)
def nums (N : Nat) : List Int := (List.range N).map fun (j : Nat) => (j : Int)
theorem nums_len (N : Nat) : (nums N).length = N := by simp [nums]
theorem nums_succ {N k : Nat} (h : k < N) : (nums N).take (k + 1) = (nums N).take k ++ [(k : Int)] := by
  rw [List.take_add_one]
  simp [nums, h]
theorem nums_ok {xss : List (List Int)} {N : Nat} (hx : xss.length = N) : wordOk xss (nums N) = true := decide_eq_true fun x h => by
  obtain ⟨j, hj, rfl⟩ := List.mem_map.1 h
  have := List.mem_range.1 hj
  omega
theorem perL_len (xs : List Int) : (perL xs).length = xs.length := by simp [perL]
theorem perL_succ {xs : List Int} {n f : Nat} (hn : xs.length = n) (h : f < n) : (perL xs).take (f + 1) = (perL xs).take f ++ [((1 + retTo xs (f : Int) (n - 1) (fz xs (f : Int)) : Nat) : Int)] := by
  rw [List.take_add_one]
  simp [perL, hn, h]
/-- On the way: k flags passed, the first of them f, and g comes next. -/
structure Way (xs : List Int) (n : Nat) (f : Int) (k : Nat) (g : Int) : Prop where
  go : ∃ cur : List Int, cur.length = k ∧ cur[0]? = some f ∧ Passed n cur ∧ Chain xs cur g
  left : k + retTo xs f (n - k) g = 1 + retTo xs f (n - 1) (fz xs f)
  k0 : 0 < k
  g0 : 0 ≤ g ∧ g < (n : Int)
section
variable {xs : List Int} {n k : Nat} {f g : Int}
theorem way_start (hxn : xs.length = n) (hok : okP xs = true) (h0 : 0 ≤ f) (h1 : f < (n : Int)) : Way xs n f 1 (fz xs f) := by
  obtain ⟨f, rfl⟩ := Int.eq_ofNat_of_zero_le h0
  refine ⟨⟨[(f : Int)], rfl, rfl, by simpa using passed_snoc (passed_nil n) (show f < n by omega) (by simp), ?_⟩, rfl, by omega, fz_in hxn hok h0 h1⟩
  simpa using chain_snoc (chain_nil xs (f : Int))
theorem way_le (h : Way xs n f k g) : k ≤ n := by
  obtain ⟨cur, h1, _, h3, _⟩ := h.go
  have := passed_len h3
  omega
theorem way_out (hxn : xs.length = n) (hok : okP xs = true) (h : Way xs n f k g) (hne : g ≠ f) : ∃ cur : List Int, cur.length = k ∧ cur[0]? = some f ∧ Passed n (cur ++ [g]) ∧ Chain xs cur g := by
  obtain ⟨cur, h1, h2, h3, h4⟩ := h.go
  have hgb := h.g0
  obtain ⟨g, rfl⟩ := Int.eq_ofNat_of_zero_le hgb.1
  refine ⟨cur, h1, h2, passed_snoc h3 (by omega) fun hm => ?_, h4⟩
  obtain ⟨i, hi, hig⟩ := List.mem_iff_getElem.1 hm
  have hk0 := h.k0
  cases i with
  | zero =>
    rw [List.getElem?_eq_getElem hi, hig] at h2
    injection h2 with h2
    exact hne h2
  | succ i =>
    have a1 : cur[i]? = some (cur[i]'(by omega)) := List.getElem?_eq_getElem (by omega)
    have a2 := h4 i _ a1
    rw [List.getElem?_append_left (by omega), List.getElem?_eq_getElem hi, hig] at a2
    have b1 : cur[k - 1]? = some (cur[k - 1]'(by omega)) := List.getElem?_eq_getElem (by omega)
    have b2 := h4 (k - 1) _ b1
    rw [show k - 1 + 1 = cur.length by omega, List.getElem?_append_right (Nat.le_refl _)] at b2
    simp at b2
    injection a2 with a2
    have c1 := h3.1 _ (List.mem_of_getElem? a1)
    have c2 := h3.1 _ (List.mem_of_getElem? b1)
    have := fz_inj hxn hok c1.1 c1.2 c2.1 c2.2 (a2.symm.trans b2)
    have := (List.getElem_inj h3.2).1 this
    omega
theorem way_lt (hxn : xs.length = n) (hok : okP xs = true) (h : Way xs n f k g) (hne : g ≠ f) : k < n := by
  obtain ⟨cur, h1, _, h3, _⟩ := way_out hxn hok h hne
  have := passed_len h3
  simp at this
  omega
theorem way_step (hxn : xs.length = n) (hok : okP xs = true) (h : Way xs n f k g) (hne : g ≠ f) : Way xs n f (k + 1) (fz xs g) := by
  have hlt := way_lt hxn hok h hne
  obtain ⟨cur, h1, h2, h3, h4⟩ := way_out hxn hok h hne
  have hl := h.left
  rw [show n - k = (n - (k + 1)) + 1 by omega, retTo, if_neg hne] at hl
  refine ⟨⟨cur ++ [g], by simp [h1], ?_, h3, chain_snoc h4⟩, by omega, by omega, fz_in hxn hok h.g0.1 h.g0.2⟩
  rw [List.getElem?_append_left (by have := h.k0; omega)]
  exact h2
theorem way_end (h : Way xs n f k f) : k = 1 + retTo xs f (n - 1) (fz xs f) := by
  have hl := h.left
  cases hm : n - k with
  | zero => rw [hm, retTo] at hl; omega
  | succ t => rw [hm, retTo, if_pos rfl] at hl; omega
end
noncomputable def plR (xss : List (List Int)) : List Int := if okMan xss = true then perL (wpL xss (flN xss) (nums xss.length)) else []
noncomputable def plC (xss : List (List Int)) : Int := if okMan xss = true then 0 else 1
theorem fz_wp {xss : List (List Int)} {n : Nat} {wd : List Int} {g : Int} (h0 : 0 ≤ g) (h1 : g < (n : Int)) : fz (wpL xss n wd) g = runW xss g wd := by
  obtain ⟨g, rfl⟩ := Int.eq_ofNat_of_zero_le h0
  refine fz_at ?_
  simp [wpL, show g < n by omega]

end Go.Proofs.Ytmikoihpmhfafaa
