/- impl.dualWords, petrieWords, oppositeWords, holeWords, halfWords (written by giwd.py). -/
import Derived.Test.YtmgoaabeopnopaaIdn
import Derived.Test.YtmgoaabeopnopaaHo
namespace Go.Proofs.Ytmgoaabeopnopaa
open Go.RowKit

theorem unitL_rev (N : Nat) : (unitL N).reverse.map (fun x => [x]) = dualW N := by
  apply List.ext_getElem?
  intro j
  by_cases h : j < N
  · rw [List.getElem?_map, List.getElem?_reverse (by simpa [unitL] using h)]
    simp [unitL, dualW, h, show N - 1 - j < N by omega]
  · rw [List.getElem?_eq_none (by simp [unitL]; omega), List.getElem?_eq_none (by rw [dualW_len]; omega)]
theorem unitL_sgl (N : Nat) : (unitL N).map (fun x => [x]) = sglW N := by simp [unitL, sglW]
theorem unitL_length (N : Nat) : (unitL N).length = N := by simp [unitL]
theorem unitL_at {N k : Nat} (h : k < N) : (unitL N)[k]? = some (k : Int) := by simp [unitL, h]
theorem cell_lit1 (w : World) (u : Value) (e : TypeId) : ∀ (j : Nat) (v : Value), [u][j]? = some v → (w.alloc (.cells #[u] e)).cell? ((⟨w.heap.size, 0, none⟩ : Addr).add j) = some v := by
  intro j v hj
  match j, hj with
  | 0, hj => injection hj with hj; subst hj; simp [Addr.add]
theorem cell_lit2 (w : World) (u v : Value) (e : TypeId) : ∀ (j : Nat) (x : Value), [u, v][j]? = some x → (w.alloc (.cells #[u, v] e)).cell? ((⟨w.heap.size, 0, none⟩ : Addr).add j) = some x := by
  intro j x hj
  match j, hj with
  | 0, hj => injection hj with hj; subst hj; simp [Addr.add]
  | 1, hj => injection hj with hj; subst hj; simp [Addr.add]
theorem cell_old1 {w : World} {g p : Nat} {u : Value} (h : w.cell? ⟨g, p, none⟩ = some u) (x : Obj) : ∀ (j : Nat) (v : Value), [u][j]? = some v → (w.alloc x).cell? ((⟨g, p, none⟩ : Addr).add j) = some v := by
  intro j v hj
  match j, hj with
  | 0, hj => injection hj with hj; subst hj; simpa [Addr.add] using cell_al h x
theorem one_lit1 {u : Value} (h : u.oneCell' = true) : ∀ v ∈ [u], v.oneCell' = true := by
  intro v hv
  simp at hv
  subst hv
  exact h
theorem one_lit2 {u x : Value} (h : u.oneCell' = true) (h2 : x.oneCell' = true) : ∀ v ∈ [u, x], v.oneCell' = true := by
  intro v hv
  simp at hv
  rcases hv with rfl | rfl
  · exact h
  · exact h2

end Go.Proofs.Ytmgoaabeopnopaa
