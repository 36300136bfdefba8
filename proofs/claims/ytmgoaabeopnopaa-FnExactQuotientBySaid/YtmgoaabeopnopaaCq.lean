/- When a list is a covering, step by step. Plain facts. -/
import Derived.Test.YtmgoaabeopnopaaCw
namespace Go.Proofs.Ytmgoaabeopnopaa
open Go.RowKit

section
variable {xss yss : List (List Int)} {L : List Int}
/-- What is shown when the moves below i, and the flags below f of the move i, are gone through. -/
def CvQ (xss yss : List (List Int)) (n : Nat) (L : List Int) (i f : Nat) : Prop := ∀ (i' : Nat) (g h : List Int), xss[i']? = some g → yss[i']? = some h → ∀ t : Nat, (i' < i ∧ t < n) ∨ (i' = i ∧ t < f) → fz L (fz g t) = fz h (fz L t)
theorem cvQ_start {n : Nat} : CvQ xss yss n L 0 0 := fun i' g h _ _ t ht => by omega
theorem cvQ_step {n i f : Nat} {g h : List Int} (hq : CvQ xss yss n L i f) (hg : xss[i]? = some g) (hh : yss[i]? = some h) (he : fz L (fz g f) = fz h (fz L f)) : CvQ xss yss n L i (f + 1) := fun i' g' h' hg' hh' t ht => by
  by_cases hl : i' = i ∧ t = f
  · obtain ⟨rfl, rfl⟩ := hl
    rw [hg] at hg'; injection hg' with hg'; subst hg'
    rw [hh] at hh'; injection hh' with hh'; subst hh'
    exact he
  · exact hq i' g' h' hg' hh' t (by omega)
theorem cvQ_next {n i : Nat} (hq : CvQ xss yss n L i n) : CvQ xss yss n L (i + 1) 0 := fun i' g h hg hh t ht => hq i' g h hg hh t (by omega)
theorem cvQ_done {n : Nat} (hn : flN xss = n) (hl : xss.length = yss.length) (hlen : L.length = n) (him : ∀ t : Nat, t < n → 0 ≤ fz L t ∧ fz L t < (flN yss : Int)) (hq : CvQ xss yss n L xss.length 0) : cvB7 xss yss L = true := by
  subst hn
  exact cvB7_iff.2 ⟨hl, hlen, him, fun i g h hg hh t ht => hq i g h hg hh t (.inl ⟨(List.getElem?_eq_some_iff.1 hg).1, ht⟩)⟩
theorem cv_noL (h : L.length ≠ flN xss) : cvB7 xss yss L = false := cvB7_false fun hc => h hc.2.len
theorem cv_noR (h : xss.length ≠ yss.length) : cvB7 xss yss L = false := cvB7_false fun hc => h hc.1
theorem cv_noI {t : Nat} {y : Int} (ht : t < flN xss) (hy : L[t]? = some y) (h : flagB (flN yss) y = false) : cvB7 xss yss L = false := cvB7_false fun hc => by
  have h1 := hc.2.im t ht
  rw [fz_at hy] at h1
  have : flagB (flN yss) y = true := decide_eq_true h1
  rw [h] at this
  cases this
theorem cv_noM {i t : Nat} {g h : List Int} (hg : xss[i]? = some g) (hh : yss[i]? = some h) (ht : t < flN xss) (he : fz L (fz g t) ≠ fz h (fz L t)) : cvB7 xss yss L = false := cvB7_false fun hc => he (hc.2.mv i g h hg hh t ht)
end
end Go.Proofs.Ytmgoaabeopnopaa
