/- Faces under automorphisms. Plain facts. -/
import Derived.Test.YtmikoihpmhfafaaAl
import Derived.Test.YtmikoihpmhfafaaL11
import Derived.Test.YtmikoihpmhfafaaL13
namespace Go.Proofs.Ytmikoihpmhfafaa
open Go.RowKit

section
variable {xss : List (List Int)} {i p q : Nat} {L : List Int}
/-- The faces of rank i of the flags. -/
abbrev fL (xss : List (List Int)) (i : Nat) : List Int := facL xss (flN xss) i
/-- How many faces there are. -/
def fcn (xss : List (List Int)) (i : Nat) : Nat := (orbsTo (xss.eraseIdx i) (flN xss) (flN xss)).length
theorem fL_len : (fL xss i).length = flN xss := facL_len _ _ _
theorem fL_at (hm : IsMan xss) (hp : p < flN xss) : ∃ j : Nat, j < fcn xss i ∧ (fL xss i)[p]? = some (j : Int) := by
  obtain ⟨j, h1, h2⟩ := lab_at (okSys_erase hm.sys i) (by have := hm.f2; omega) rfl hp
  exact ⟨j, h2, h1⟩
theorem fL_same (hm : IsMan xss) (hp : p < flN xss) (hq : q < flN xss) : fz (fL xss i) p = fz (fL xss i) q ↔ (q : Int) ∈ orbL (xss.eraseIdx i) (flN xss) p := by
  have hs := okSys_erase hm.sys i
  obtain ⟨j, hj, hpj⟩ := fL_at (i := i) hm hp
  obtain ⟨k, hk, hqk⟩ := fL_at (i := i) hm hq
  obtain ⟨o, ho, hpo⟩ := (lab_iff hs hp).1 hpj
  obtain ⟨r, hr, hro⟩ := orbsTo_of (flN xss) (List.mem_of_getElem? ho)
  subst hro
  obtain ⟨h1, h2⟩ := orb_same hs hr hp hpo
  obtain ⟨_, h3⟩ := orb_same hs hp hr h1
  rw [fz_at hpj, fz_at hqk]
  constructor
  · intro h
    have : j = k := by omega
    subst this
    obtain ⟨o', ho', hqo⟩ := (lab_iff hs hq).1 hqk
    rw [ho] at ho'
    injection ho' with ho'
    subst ho'
    exact h2 _ hqo
  · intro h
    have := (lab_iff hs hq).2 ⟨_, ho, h3 _ h⟩
    have h4 : (fL xss i)[q]? = some (j : Int) := this
    rw [hqk] at h4
    injection h4 with h4
    exact h4.symm
theorem fL_onto (hm : IsMan xss) {j : Nat} (hj : j < fcn xss i) : ∃ f, f < flN xss ∧ (fL xss i)[f]? = some (j : Int) := by
  have hs := okSys_erase hm.sys i
  have ho := List.getElem?_eq_getElem (l := orbsTo (xss.eraseIdx i) (flN xss) (flN xss)) hj
  obtain ⟨r, hr, hro⟩ := orbsTo_of (flN xss) (List.mem_of_getElem? ho)
  exact ⟨r, hr, (lab_iff hs hr).2 ⟨_, ho, by rw [hro]; exact (orb_facts hs hr).2.1⟩⟩
theorem fL_in (hm : IsMan xss) : ∀ x ∈ fL xss i, 0 ≤ x ∧ x < (fcn xss i : Int) := by
  intro x hx
  obtain ⟨f, hf, he⟩ := List.mem_iff_getElem.1 hx
  rw [fL_len] at hf
  obtain ⟨j, hj, hx⟩ := fL_at (i := i) hm hf
  rw [List.getElem?_eq_getElem (by rw [fL_len]; exact hf), he] at hx
  injection hx with hx
  omega
theorem fcn_le (hm : IsMan xss) : fcn xss i ≤ flN xss := (orbsTo_facts (okSys_erase hm.sys i) (flN xss) (Nat.le_refl _)).2.2.1
theorem fcn_pos (hm : IsMan xss) : 0 < fcn xss i := by
  obtain ⟨j, hj, _⟩ := fL_at (i := i) hm (p := 0) (by have := hm.f2; omega)
  omega
theorem fL_grt (hm : IsMan xss) : grtL (fL xss i) = (fcn xss i : Int) := lab_cnt (okSys_erase hm.sys i) (by have := hm.f2; omega)
/-- An automorphism leads flags of one face to flags of one face. -/
theorem fL_aut (hm : IsMan xss) (hL : L ∈ autL xss) (hp : p < flN xss) (hq : q < flN xss) (h : fz (fL xss i) p = fz (fL xss i) q) : fz (fL xss i) (fz L p) = fz (fL xss i) (fz L q) := by
  have hn : 0 < flN xss := by have := hm.f2; omega
  have hH := (aut_iff hm).1 hL
  have h1 := (hom_iso hm.sys hm.sys rfl hn (fun _ hq => hm.all hq) hH).erase i
  have hs := okSys_erase hm.sys i
  have hmem := (fL_same hm hp hq).1 h
  have h2 := (tr_orb (h1.tr hs) (n := flN xss) (x := (p : Int)) ⟨by omega, by omega⟩).2
  obtain ⟨a, ha⟩ := Int.eq_ofNat_of_zero_le (hH.im p hp).1
  obtain ⟨b, hb⟩ := Int.eq_ofNat_of_zero_le (hH.im q hq).1
  have han : a < flN xss := by have := (hH.im p hp).2; omega
  have hbn : b < flN xss := by have := (hH.im q hq).2; omega
  rw [ha, hb]
  refine (fL_same hm han hbn).2 ?_
  have h3 := List.mem_map_of_mem (f := fun x : Int => (((fz L ((x.toNat : Nat) : Int)).toNat : Nat) : Int)) hmem
  rw [h2] at h3
  simpa [ha, hb] using h3
/-- To which faces an automorphism leads the faces. -/
def fpL (xss : List (List Int)) (i : Nat) (L : List Int) : List Int := (List.range (fcn xss i)).map fun (o : Nat) => fz (fL xss i) (fz L (idxL (fL xss i) (o : Int)))
theorem fpL_len : (fpL xss i L).length = fcn xss i := by simp [fpL]
theorem fpL_at (hm : IsMan xss) (hL : L ∈ autL xss) (hp : p < flN xss) {j : Nat} (hj : (fL xss i)[p]? = some (j : Int)) : (fpL xss i L)[j]? = some (fz (fL xss i) (fz L p)) := by
  have hjl : j < fcn xss i := by have := (fL_in hm _ (List.mem_of_getElem? hj)).2; omega
  have hi := fz_idx (List.mem_of_getElem? hj)
  obtain ⟨a, ha⟩ := Int.eq_ofNat_of_zero_le hi.1
  rw [fL_len] at hi
  have h2 := fL_aut (i := i) hm hL (show a < flN xss by omega) hp (by rw [fz_at hj, ← ha]; exact hi.2.2)
  unfold fpL
  rw [List.getElem?_map, List.getElem?_range hjl]
  simp only [Option.map_some]
  rw [ha, h2]
/-- What the list of faces holds when the flags below f are done. -/
def FpR (xss : List (List Int)) (i : Nat) (L : List Int) (f : Nat) (D : List Int) : Prop := D.length = fcn xss i ∧ ∀ k : Nat, k < f → ∀ j : Nat, (fL xss i)[k]? = some (j : Int) → D[j]? = some (fz (fL xss i) (fz L k))
theorem fpR_start : FpR xss i L 0 (List.replicate (fcn xss i) 0) := ⟨by simp, fun k hk => by omega⟩
theorem fpR_step {D : List Int} {f j : Nat} (hm : IsMan xss) (hL : L ∈ autL xss) (hf : f < flN xss) (h : FpR xss i L f D) (hj : (fL xss i)[f]? = some (j : Int)) : FpR xss i L (f + 1) (D.set j (fz (fL xss i) (fz L f))) := by
  have hjl : j < fcn xss i := by have := (fL_in hm _ (List.mem_of_getElem? hj)).2; omega
  refine ⟨by simp [h.1], fun k hk u hu => ?_⟩
  by_cases e : j = u
  · subst e
    rw [List.getElem?_set_self (by rw [h.1]; exact hjl)]
    have h1 := fpL_at hm hL hf hj
    have h2 := fpL_at hm hL (show k < flN xss by omega) hu
    rw [h1] at h2
    exact h2
  · rw [List.getElem?_set_ne e]
    rcases Nat.lt_succ_iff_lt_or_eq.1 hk with h1 | rfl
    · exact h.2 k h1 u hu
    · rw [hj] at hu; injection hu with hu; omega
theorem fpR_done {D : List Int} (hm : IsMan xss) (hL : L ∈ autL xss) (h : FpR xss i L (flN xss) D) : D = fpL xss i L := by
  apply List.ext_getElem?
  intro j
  by_cases hj : j < fcn xss i
  · obtain ⟨f, hf, he⟩ := fL_onto hm hj
    rw [h.2 f hf j he, fpL_at hm hL hf he]
  · rw [List.getElem?_eq_none (by rw [h.1]; omega), List.getElem?_eq_none (by rw [fpL_len]; omega)]
/-- The automorphisms that keep a face. -/
noncomputable def sbL (xss : List (List Int)) (i : Nat) (y : Int) : List (List Int) := (autL xss).filter fun L => decide (fz (fL xss i) (fz L (idxL (fL xss i) y)) = y)
noncomputable def sbR (xss : List (List Int)) (i y : Int) : List (List Int) := if fcC xss i y (-1) = 0 then sbL xss i.toNat y else []
theorem sbR_le (xss : List (List Int)) (i y : Int) : (sbR xss i y).length ≤ 1048576 ∧ ∀ xs ∈ sbR xss i y, (xs.length : Int) ≤ 1048576 := by
  unfold sbR
  split
  · rename_i h
    have hm := okMan_iff.1 (fcC_zero h).1
    have h4 := hm.f4
    have h1 := autL_len xss
    have h2 := List.length_filter_le (fun L => decide (fz (fL xss i.toNat) (fz L (idxL (fL xss i.toNat) y)) = y)) (autL xss)
    refine ⟨by unfold sbL; omega, fun xs hx => ?_⟩
    have := autL_rows xs (List.mem_filter.1 hx).1
    omega
  · simp
end
end Go.Proofs.Ytmikoihpmhfafaa
