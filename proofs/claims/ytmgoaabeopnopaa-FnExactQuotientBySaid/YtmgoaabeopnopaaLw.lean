/- slices.Clone at []int64; impl.Poset.hasMeets. -/
import Derived.Test.YtmgoaabeopnopaaPt
import Derived.Test.YtmgoaabeopnopaaLm
import Derived.Test.YtmgoaabeopnopaaL9
import Derived.Lib.SliceRun
namespace Go.Proofs.Ytmgoaabeopnopaa
open Go.RowKit

/-- Row k is replaced by a row of its own. -/
theorem ownSS_putrow {w : World} {lo hi e n c k g c1 bc : Nat} {A1 : Option Addr} {xss : List (List Int)} {D : List Int} (h : OwnSS w lo hi e (some ⟨g, 0, none⟩) n c xss) (he : e ≠ 2) (hk : k < n) (hD : w.ownsRow bc 2 1 (.slice A1 D.length c1) D.length (ints D)) (hbc : hi ≤ bc) (hhi : hi ≤ w.heap.size) :
    OwnSS (w.setCell ⟨g, k, none⟩ (.slice A1 D.length c1)) lo w.heap.size e (some ⟨g, 0, none⟩) n c (xss.set k D) ∧ w.frozen? ⟨g, k, none⟩ = false ∧ (∃ u, w.cell? ⟨g, k, none⟩ = some u) ∧ Turns lo hi w (w.setCell ⟨g, k, none⟩ (.slice A1 D.length c1)) := by
  obtain ⟨vals, h1, hp, h2, h3, h4⟩ := h
  have hg1 := hp g rfl
  have hst := h1.stored k (.slice A1 D.length c1)
  have hvl : vals.length = n := by have := h1.1; omega
  have hin := own_in hD
  refine ⟨⟨vals.set k (.slice A1 D.length c1), hst.1, inB_wide hp (Nat.le_refl _) (by omega), by simp [h2], ?_, ?_⟩, h1.frozenAt k, ⟨_, own_cell h1 (List.getElem?_eq_getElem (by omega))⟩, (turns_set w g k _).wide hg1.1 (by omega)⟩
  · intro j zs hj
    by_cases ej : j = k
    · subst ej
      rw [List.getElem?_set_self (by omega)] at hj
      injection hj with hj
      subst hj
      exact ⟨A1, c1, by rw [List.getElem?_set_self (by omega)], own_base (hD.kept hst.2 (own_ne hD h1 (fun e => he e.symm))) (by omega), inB_wide hin (by omega) (Nat.le_refl _)⟩
    · rw [List.getElem?_set_ne (fun e => ej e.symm)] at hj
      obtain ⟨A2, c2, e2, o2, p2⟩ := h3 j zs hj
      exact ⟨A2, c2, by rw [List.getElem?_set_ne (fun e => ej e.symm)]; exact e2, o2.kept hst.2 (own_ne o2 h1 (fun e => he e.symm)), inB_wide p2 (Nat.le_refl _) hhi⟩
  · have hother : ∀ (j : Nat) (v : Value), j ≠ k → vals[j]? = some v → ∀ b, v.ownBlock = some b → (Value.slice A1 D.length c1).ownBlock ≠ some b := by
      intro j v hj hv b hb hb2
      have hjl : j < xss.length := by have := (List.getElem?_eq_some_iff.1 hv).1; omega
      obtain ⟨A2, c2, e2, o2, p2⟩ := h3 j _ (List.getElem?_eq_getElem hjl)
      rw [hv] at e2
      injection e2 with e2
      subst e2
      have := p2 b hb
      have := hin b hb2
      omega
    intro i j u v hij hu hv b hb
    by_cases ei : i = k
    · subst ei
      rw [List.getElem?_set_self (by omega)] at hu
      injection hu with hu
      subst hu
      rw [List.getElem?_set_ne hij] at hv
      intro hvb
      exact hother j v (fun e => hij e.symm) hv b hvb hb
    · rw [List.getElem?_set_ne (fun e => ei e.symm)] at hu
      by_cases ej : j = k
      · subst ej
        rw [List.getElem?_set_self (by omega)] at hv
        injection hv with hv
        subst hv
        exact hother i u hij hu b hb
      · rw [List.getElem?_set_ne (fun e => ej e.symm)] at hv
        exact h4 i j u v hij hu hv b hb

/-- The first k lists of lower elements. -/
def lowT (bss : List (List Int)) (n k : Nat) : List (List Int) := (List.range k).map (lowL bss) ++ List.replicate (n - k) []
theorem lowT_zero (bss : List (List Int)) (n : Nat) : lowT bss n 0 = List.replicate n [] := by simp [lowT]
theorem lowT_set {bss : List (List Int)} {n k : Nat} {b : List Int} (hk : k < n) (hb : bss[k]? = some b) : (lowT bss n k).set k (b ++ [(k : Int)]) = lowT bss n (k + 1) := by
  unfold lowT
  rw [List.set_append_right _ _ (by simp), List.range_succ, List.map_append]
  have e1 : k - (List.map (lowL bss) (List.range k)).length = 0 := by simp
  have e2 : n - k = n - (k + 1) + 1 := by omega
  rw [e1, e2, List.replicate_succ, List.set_cons_zero, List.append_assoc]
  simp [lowL, List.getD, hb]
theorem lowT_at {bss : List (List Int)} {n k : Nat} (hk : k < n) : (lowT bss n n)[k]? = some (lowL bss k) := by
  unfold lowT
  rw [List.getElem?_append_left (by simpa using hk)]
  simp [hk]
/-- What the first t lower elements of f have in common with those of e. -/
def comT (bss : List (List Int)) (e f t : Nat) : List Int := ((lowL bss f).take t).filter fun d => decide (d ∈ lowL bss e)
theorem comT_succ {bss : List (List Int)} {e f t : Nat} {d : Int} (h : (lowL bss f)[t]? = some d) : comT bss e f (t + 1) = comT bss e f t ++ (if d ∈ lowL bss e then [d] else []) := by
  unfold comT
  rw [List.take_add_one, h, List.filter_append]
  congr 1
  by_cases hd : d ∈ lowL bss e
  · rw [if_pos hd]; simp [hd]
  · rw [if_neg hd]; simp [hd]
theorem comT_all {bss : List (List Int)} {e f t : Nat} (h : (lowL bss f).length ≤ t) : comT bss e f t = comL bss e f := by
  unfold comT comL
  rw [List.take_of_length_le h]
theorem comT_len {bss : List (List Int)} {e f t : Nat} : (comT bss e f t).length ≤ t := by
  unfold comT
  exact Nat.le_trans (List.length_filter_le _ _) (by simp; omega)

end Go.Proofs.Ytmgoaabeopnopaa
