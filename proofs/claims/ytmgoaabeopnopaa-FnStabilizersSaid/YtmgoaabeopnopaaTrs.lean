/- Sections of sections: what the moves of a section reach is what they reach in the maniplex, numbered anew. Plain facts. -/
import Derived.Test.YtmgoaabeopnopaaL16
namespace Go.Proofs.Ytmgoaabeopnopaa
open Go.RowKit

section
variable {zs : List (List Int)} {n l : Nat} {ord m : List Int} {x y : Int}
theorem fz_row (hx0 : 0 ≤ x) (hx1 : x < (ord.length : Int)) : fz (secRow ord m) x = idxL ord (fz m (fz ord x)) := by
  obtain ⟨k, rfl⟩ := Int.eq_ofNat_of_zero_le hx0
  have hk : k < ord.length := by omega
  have h1 := List.getElem?_eq_getElem hk
  rw [fz_at h1]
  refine fz_at ?_
  rw [secRow, List.getElem?_map, h1]
  rfl
theorem fz_mem {k : Int} (h0 : 0 ≤ k) (h1 : k < (ord.length : Int)) : fz ord k ∈ ord := by
  obtain ⟨k, rfl⟩ := Int.eq_ofNat_of_zero_le h0
  have h2 := List.getElem?_eq_getElem (show k < ord.length by omega)
  rw [fz_at h2]
  exact List.getElem_mem _
theorem fz_idx (h : x ∈ ord) : 0 ≤ idxL ord x ∧ idxL ord x < (ord.length : Int) ∧ fz ord (idxL ord x) = x := by
  have h0 : 0 ≤ idxL ord x := by simpa [h] using idxL_mem ord x
  refine ⟨h0, (idxL_bd ord x).2, ?_⟩
  have := idxL_get h
  obtain ⟨k, hk⟩ := Int.eq_ofNat_of_zero_le h0
  rw [hk] at this ⊢
  exact fz_at this
end
section
variable {yss zs : List (List Int)} {n l f q : Nat}
theorem ext_fz {a b : List Int} {n : Nat} (ha : a.length = n) (hb : b.length = n) (h : ∀ k : Nat, k < n → fz a k = fz b k) : a = b := by
  refine List.ext_getElem (by omega) fun j h1 h2 => ?_
  have := h j (by omega)
  rwa [fz_at (List.getElem?_eq_getElem h1), fz_at (List.getElem?_eq_getElem h2)] at this
theorem fz_unit {n : Nat} {k : Nat} (hk : k < n) : fz (unitL n) k = k := fz_at (by simp [unitL, hk])
theorem polL_mem {x : Int} : x ∈ polL yss n ↔ ∃ p, p < n ∧ ((orbL yss n p).length : Int) / 2 = x := by
  unfold polL
  rw [(sortL_perm _).mem_iff, ddTo_mem]
end
end Go.Proofs.Ytmgoaabeopnopaa
