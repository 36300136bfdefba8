/- The faces that a covering gives to faces. Plain facts. -/
import Derived.Test.YtmgoaabeopnopaaCw
import Derived.Test.YtmgoaabeopnopaaL8
import Derived.Test.YtmgoaabeopnopaaL13
import Derived.Test.YtmgoaabeopnopaaL11
import Derived.Test.YtmgoaabeopnopaaL16
namespace Go.Proofs.Ytmgoaabeopnopaa
open Go.RowKit

section
variable {xss : List (List Int)} {i p q : Nat} {L : List Int}
/-- The faces of rank i of the flags. -/
abbrev g7L (xss : List (List Int)) (i : Nat) : List Int := facL xss (flN xss) i
/-- How many faces there are. -/
def g7n (xss : List (List Int)) (i : Nat) : Nat := (orbsTo (xss.eraseIdx i) (flN xss) (flN xss)).length
theorem g7L_len : (g7L xss i).length = flN xss := facL_len _ _ _
theorem g7L_at (hm : IsMan xss) (hp : p < flN xss) : ∃ j : Nat, j < g7n xss i ∧ (g7L xss i)[p]? = some (j : Int) := by
  obtain ⟨j, h1, h2⟩ := lab_at (okSys_erase hm.sys i) (by have := hm.f2; omega) rfl hp
  exact ⟨j, h2, h1⟩
theorem g7L_same (hm : IsMan xss) (hp : p < flN xss) (hq : q < flN xss) : fz (g7L xss i) p = fz (g7L xss i) q ↔ (q : Int) ∈ orbL (xss.eraseIdx i) (flN xss) p := by
  have hs := okSys_erase hm.sys i
  obtain ⟨j, hj, hpj⟩ := g7L_at (i := i) hm hp
  obtain ⟨k, hk, hqk⟩ := g7L_at (i := i) hm hq
  obtain ⟨o, ho, hpo⟩ := (lab_iff hs hp).1 hpj
  obtain ⟨r, hr, hro⟩ := orbsTo_of (flN xss) (List.mem_of_getElem? ho)
  subst hro
  obtain ⟨h1, h2⟩ := orb_same hs hr hp hpo
  obtain ⟨_, h3⟩ := orb_same hs hp hr h1
  rw [fz_at hpj, fz_at hqk]
  constructor
  · intro h
    have : j = k := by omega
    subst this
    obtain ⟨o', ho', hqo⟩ := (lab_iff hs hq).1 hqk
    rw [ho] at ho'
    injection ho' with ho'
    subst ho'
    exact h2 _ hqo
  · intro h
    have := (lab_iff hs hq).2 ⟨_, ho, h3 _ h⟩
    have h4 : (g7L xss i)[q]? = some (j : Int) := this
    rw [hqk] at h4
    injection h4 with h4
    exact h4.symm
theorem g7L_onto (hm : IsMan xss) {j : Nat} (hj : j < g7n xss i) : ∃ f, f < flN xss ∧ (g7L xss i)[f]? = some (j : Int) := by
  have hs := okSys_erase hm.sys i
  have ho := List.getElem?_eq_getElem (l := orbsTo (xss.eraseIdx i) (flN xss) (flN xss)) hj
  obtain ⟨r, hr, hro⟩ := orbsTo_of (flN xss) (List.mem_of_getElem? ho)
  exact ⟨r, hr, (lab_iff hs hr).2 ⟨_, ho, by rw [hro]; exact (orb_facts hs hr).2.1⟩⟩
theorem g7L_in (hm : IsMan xss) : ∀ x ∈ g7L xss i, 0 ≤ x ∧ x < (g7n xss i : Int) := by
  intro x hx
  obtain ⟨f, hf, he⟩ := List.mem_iff_getElem.1 hx
  rw [g7L_len] at hf
  obtain ⟨j, hj, hx⟩ := g7L_at (i := i) hm hf
  rw [List.getElem?_eq_getElem (by rw [g7L_len]; exact hf), he] at hx
  injection hx with hx
  omega
theorem g7n_le (hm : IsMan xss) : g7n xss i ≤ flN xss := (orbsTo_facts (okSys_erase hm.sys i) (flN xss) (Nat.le_refl _)).2.2.1
theorem g7n_pos (hm : IsMan xss) : 0 < g7n xss i := by
  obtain ⟨j, hj, _⟩ := g7L_at (i := i) hm (p := 0) (by have := hm.f2; omega)
  omega
theorem g7L_grt (hm : IsMan xss) : grtL (g7L xss i) = (g7n xss i : Int) := lab_cnt (okSys_erase hm.sys i) (by have := hm.f2; omega)
end
section
variable {xss yss : List (List Int)}
/-- The faces of the one maniplex that the faces of the other one get from the flags below k. -/
def mpTo (A B L : List Int) (m : Nat) : Nat → List Int
  | 0 => List.replicate m 0
  | k + 1 => (mpTo A B L m k).set (fz A k).toNat (fz B (fz L k))
theorem mpTo_len {A B L : List Int} {m : Nat} : ∀ k, (mpTo A B L m k).length = m
  | 0 => by simp [mpTo]
  | k + 1 => by rw [mpTo, List.length_set, mpTo_len k]
def mpL7 (xss yss : List (List Int)) (L : List Int) (i : Nat) : List Int := mpTo (g7L xss i) (g7L yss i) L (g7n xss i) (flN xss)
noncomputable def fmC7 (xss yss : List (List Int)) (L : List Int) (i : Int) : Int := if cvC7 xss yss L = 0 then (if flagB xss.length i then 0 else 2) else cvC7 xss yss L
noncomputable def fmR7 (xss yss : List (List Int)) (L : List Int) (i : Int) : List Int := if fmC7 xss yss L i = 0 then mpL7 xss yss L i.toNat else []
theorem fmR7_le (xss yss : List (List Int)) (L : List Int) (i : Int) : (fmR7 xss yss L i).length ≤ 1048576 := by
  unfold fmR7
  split
  · rename_i h
    have h0 : cvC7 xss yss L = 0 := by
      unfold fmC7 at h
      split at h
      · assumption
      · exact absurd h (by assumption)
    obtain ⟨h1, h2, h3⟩ := cvC7_zero h0
    have := h1.f4
    have := g7n_le (i := i.toNat) h1
    unfold mpL7
    rw [mpTo_len]
    omega
  · simp
end
end Go.Proofs.Ytmgoaabeopnopaa
