import Derived.Test.YtjkddoiacifhpaaSum
namespace Go.Proofs.Ytjkddoiacifhpaa
open Go.RowKit

def PL : List Int := [2, 3, 5, 7, 11, 13, 17, 19, 23, 29, 31, 37, 41, 43, 47]
theorem PL_mem {x : Int} (h : x ∈ PL) : 2 ≤ x ∧ x ≤ 47 := by simp [PL] at h; omega
structure PrSt (w2 wr : World) (A' : Option Addr) (m c' : Nat) (L : List Int) : Prop where
  own : wr.ownsRow w2.heap.size 2 1 (.slice A' m c') m (ints L)
  pr : Rd wr (some ⟨w2.heap.size + 1, 0, none⟩) (ints PL)
  ne : ∀ k, (Value.slice A' m c').ownBlock = some k → k ≠ w2.heap.size + 1
  hd : L = [] ∨ L[0]? = some 1
  bel : Below w2.heap.size w2 wr
theorem PrSt.len {w2 wr : World} {A' : Option Addr} {m c' : Nat} {L : List Int} (h : PrSt w2 wr A' m c' L) : L.length = m := by have := h.own.1; simpa using this
theorem PrSt.push {w2 wr w4 : World} {A' A4 : Option Addr} {m c' c4 : Nat} {L : List Int} {y : Int} {o : Obj} (h : PrSt w2 wr A' m c' L) (own4 : w4.ownsRow w2.heap.size 2 1 (.slice A4 (m + 1) c4) (m + 1) (ints L ++ [.int .i64 y]))
    (gr : (wr.alloc o).grownBy w4 (Value.slice A' m c').ownBlock) (hy : L = [] → y = 1) : PrSt w2 w4 A4 (m + 1) c4 (L ++ [y]) := by
  have hp4 : Rd w4 (some ⟨w2.heap.size + 1, 0, none⟩) (ints PL) := (h.pr.keep ((Below.refl _ _).alloc (Nat.le_refl _) o)).grown gr fun b o e he => by
    simp only [Option.some.injEq, Addr.mk.injEq] at e
    exact h.ne b he.symm e.1.symm
  have hhd : (L ++ [y])[0]? = some 1 := by
    rcases h.hd with h1 | h1
    · subst h1; simp [hy rfl]
    · rw [List.getElem?_append_left (List.getElem?_eq_some_iff.1 h1).1]; exact h1
  have own5 : w4.ownsRow w2.heap.size 2 1 (.slice A4 (m + 1) c4) (m + 1) (ints (L ++ [y])) := by simpa using own4
  refine ⟨own5, hp4, ?_, .inr hhd, ?_⟩
  · intro k hk he
    obtain ⟨g, rfl⟩ := own_shape own4 (Nat.succ_pos m)
    have hg : g = k := by simpa [Value.ownBlock] using hk
    subst hg
    have h1 := own_cell own5 (k := 0) (u := .int .i64 1) (by rw [ints, List.getElem?_map, hhd]; rfl)
    obtain ⟨b, o', e, hc⟩ := hp4 (by simp [PL])
    have h2 := hc 0 (.int .i64 2) rfl
    simp only [Option.some.injEq, Addr.mk.injEq] at e
    obtain ⟨rfl, rfl, _⟩ := e
    rw [he] at h1
    simp only [Nat.add_zero] at h2
    rw [h1] at h2
    simp at h2
  · exact (h.bel.alloc h.bel.size o).grown gr (by have := h.bel.size; simp; omega) fun b hb => (h.own.lt b hb).1

end Go.Proofs.Ytjkddoiacifhpaa
