/- What the row's frame hands to the walk: a slice of int64 that came in, as a list. -/
import Derived.Test.YtbjfeogkdfmjpaaTurn
namespace Go.Proofs.Ytbjfeogkdfmjpaa
open Go.RowKit

def IsRow (k : IntKind) (w : World) (a : Option Addr) (len cap : Nat) (zs : List Int) : Prop :=
  (a = none ∧ len = 0 ∧ cap = 0 ∧ zs = []) ∨
  ∃ x, a = some x ∧ len ≤ cap ∧ cap ≤ maxLen ∧ zs.length = cap ∧ (∀ i, i < zs.length → w.cell? (x.add i) = some (.int k (zs.getD i 0))) ∧ ∀ n ∈ zs, (Lit.int k n).wf = true

theorem isRow_rd {w : World} {a : Option Addr} {len cap : Nat} {zs : List Int} (h : IsRow .i64 w a len cap zs) :
    ∃ xs : List Int, xs.length = len ∧ Rd w a (ints xs) ∧ (∀ n ∈ xs, (Lit.int .i64 n).wf = true) ∧ len ≤ maxLen := by
  rcases h with ⟨rfl, rfl, rfl, rfl⟩ | ⟨x, rfl, hl, hm, hz, hc, hw⟩
  · exact ⟨[], rfl, Rd.nil, by simp, Nat.zero_le _⟩
  · refine ⟨zs.take len, by simp; omega, fun hp => ?_, fun n hn => hw n (List.mem_of_mem_take hn), by omega⟩
    obtain ⟨b, o, s⟩ := x
    have h0 := hc 0 (by simp at hp; omega)
    have hs : s = none := by simpa [Addr.add] using World.cell?_spot h0
    subst hs
    refine ⟨b, o, rfl, fun k u hu => ?_⟩
    have hk : k < len ∧ k < zs.length := by
      have := (List.getElem?_eq_some_iff.1 hu).1
      simp at this
      omega
    have hck := hc k hk.2
    rw [Addr.add_lit] at hck
    rw [hck]
    have e : (ints (zs.take len))[k]? = some (.int .i64 (zs.getD k 0)) := by
      simp [hk.1, hk.2]
    rw [e] at hu
    exact hu
/-- A slice of slices of int64 that came in, as a list of lists. -/
def IsRows (w : World) (a : Option Addr) (len : Nat) (zss : List (List Int)) : Prop := zss.length = len ∧ RdSS w a zss ∧ len ≤ maxLen
theorem isRows_nil (w : World) : IsRows w none 0 [] := ⟨rfl, RdSS.nil, Nat.zero_le _⟩
theorem isRows_of {w : World} {a : Addr} {len cap base : Nat} {A : Nat → Option Addr} {L C : Nat → Nat} {Z : Nat → List Int} (hl : len ≤ cap) (hm : cap ≤ maxLen)
    (h : ∀ r, r < cap → w.cell? (a.add r) = some (.slice (A r) (L r) (C r)) ∧ L r ≤ C r ∧ C r ≤ maxLen ∧ (Z r).length = C r ∧ (∀ n ∈ Z r, (Lit.int .i64 n).wf = true) ∧ (A r = none → C r = 0) ∧
      ∀ a', A r = some a' → base ≤ a'.block ∧ ∀ c, c < C r → w.cell? (a'.add c) = some (.int .i64 ((Z r).getD c 0))) :
    IsRows w (some a) len ((List.range len).map fun r => (Z r).take (L r)) := by
  refine ⟨by simp, ⟨(List.range len).map fun r => .slice (A r) (L r) (C r), fun hp => ?_, by simp, fun j xs hj => ?_⟩, by omega⟩
  · have hlen : 0 < len := by simpa using hp
    obtain ⟨b, o, s⟩ := a
    have h0 := (h 0 (by omega)).1
    have hs : s = none := by simpa [Addr.add] using World.cell?_spot h0
    subst hs
    refine ⟨b, o, rfl, fun k u hu => ?_⟩
    have hk : k < len := by
      have := (List.getElem?_eq_some_iff.1 hu).1
      simpa using this
    have hck := (h k (by omega)).1
    rw [Addr.add_lit] at hck
    rw [hck]
    simp [hk] at hu
    rw [hu]
  · have hk : j < len := by
      have := (List.getElem?_eq_some_iff.1 hj).1
      simpa using this
    obtain ⟨e1, e2, e3, e4, e5, e6, e7⟩ := h j (by omega)
    simp [hk] at hj
    subst hj
    have hlen : ((Z j).take (L j)).length = L j := by simp; omega
    unfold maxLen at e3
    refine ⟨A j, C j, by rw [hlen]; simp [hk], ?_, by rw [hlen]; omega⟩
    cases hA : A j with
    | none =>
      have := e6 hA
      have h0 : (Z j).take (L j) = [] := List.eq_nil_of_length_eq_zero (by omega)
      rw [h0]
      exact Rd.nil
    | some a' =>
      have hc := (e7 a' hA).2
      have hrow : IsRow .i64 w (some a') (L j) (C j) (Z j) := .inr ⟨a', rfl, e2, by unfold maxLen; omega, e4, fun i hi => hc i (by omega), e5⟩
      obtain ⟨xs, h1, h2, _⟩ := isRow_rd hrow
      have h3 : xs = (Z j).take (L j) := by
        apply List.ext_getElem?
        intro i
        by_cases hi : i < L j
        · obtain ⟨b, o, x, hb, hx, hcx⟩ := h2.int (k := i) (by omega)
          injection hb with hb
          subst hb
          have := hc i (by omega)
          rw [Addr.add_lit] at this
          rw [this] at hcx
          rw [hx, List.getElem?_take, if_pos hi, List.getElem?_eq_getElem (by omega)]
          simp [List.getD, show i < (Z j).length by omega] at hcx
          rw [hcx]
        · rw [List.getElem?_eq_none (by omega), List.getElem?_eq_none (by simp; omega)]
      rw [← h3]
      exact h2
end Go.Proofs.Ytbjfeogkdfmjpaa
