/- Each flag of a section leads to all of its flags. -/
import Derived.Test.YtckmmgepoccopaaSph
namespace Go.Proofs.Ytckmmgepoccopaa
open Go.RowKit

section
variable {yss : List (List Int)} {n f l q : Nat}
theorem secL_all (hsys : okSys n yss = true) (hf : f < n) (hl : (orbL yss n f).length = l) (hq : q < l) : (orbL (secL yss n f) l q).length = l := by
  obtain ⟨hpa, hfm, hcl⟩ := orb_facts hsys hf
  have hks := secL_sys hsys hf hl
  obtain ⟨hpo, hqm, hclo⟩ := orb_facts hks hq
  obtain ⟨ord, hord⟩ : ∃ ord, orbL yss n f = ord := ⟨_, rfl⟩
  obtain ⟨O, hO⟩ : ∃ O, orbL (secL yss n f) l q = O := ⟨_, rfl⟩
  rw [hO] at hpo hqm hclo ⊢
  rw [hord] at hpa hfm hcl hl
  have hat : ∀ j : Nat, j < l → ∃ x, ord[j]? = some x := fun j hj => ⟨_, List.getElem?_eq_getElem (by omega)⟩
  -- the points that the flags of O stand for
  let S : List Int := O.map fun j => ord.getD j.toNat 0
  have hS : ∀ x, x ∈ S ↔ ∃ j : Nat, (j : Int) ∈ O ∧ ord[j]? = some x := by
    intro x
    constructor
    · intro hx
      obtain ⟨j, hj, rfl⟩ := List.mem_map.1 hx
      have hb := hpo.1 j hj
      obtain ⟨j, rfl⟩ := Int.eq_ofNat_of_zero_le hb.1
      obtain ⟨x, hx⟩ := hat j (by omega)
      exact ⟨j, hj, by simp [hx]⟩
    · rintro ⟨j, hj, hx⟩
      exact List.mem_map.2 ⟨j, hj, by simp [hx]⟩
  have hSc : Closed yss S := by
    intro g hg x hx
    obtain ⟨j, hj, hxj⟩ := (hS x).1 hx
    have hxm := List.mem_of_getElem? hxj
    have hgx := hcl g hg x hxm
    have hrow : secRow ord g ∈ secL yss n f := List.mem_map.2 ⟨g, hg, by rw [hord]⟩
    have h1 := hclo _ hrow _ hj
    have h2 : fz (secRow ord g) (j : Int) = idxL ord (fz g x) := fz_at (by simp [secRow, hxj])
    rw [h2] at h1
    have h3 := idxL_get hgx
    have hb := hpo.1 _ h1
    refine (hS _).2 ⟨(idxL ord (fz g x)).toNat, ?_, h3⟩
    rw [Int.toNat_of_nonneg hb.1]
    exact h1
  obtain ⟨p, hp⟩ := hat q hq
  have hpb := hpa.1 p (List.mem_of_getElem? hp)
  obtain ⟨p, rfl⟩ := Int.eq_ofNat_of_zero_le hpb.1
  have hpn : p < n := by omega
  have hpS : (p : Int) ∈ S := (hS _).2 ⟨q, hqm, hp⟩
  have hsub := orb_sub (n := n) hSc hpS
  -- the first flag is led to from p
  have hfS : (f : Int) ∈ S := by
    apply hsub
    apply Classical.byContradiction
    intro hno
    obtain ⟨ppa, ppm, pcl⟩ := orb_facts hsys hpn
    have o2 := (orb_aside hsys ppa pcl hf hno).2.1
    rw [hord] at o2
    exact (List.nodup_append.1 o2.2).2.2 _ ppm _ (List.mem_of_getElem? hp) rfl
  have hall := orb_sub (n := n) hSc hfS
  rw [hord] at hall
  refine len_all (fun k hk => ?_) hpo
  obtain ⟨x, hx⟩ := hat k hk
  obtain ⟨j, hj, hxj⟩ := (hS x).1 (hall x (List.mem_of_getElem? hx))
  have h1 := (List.getElem?_eq_some_iff.1 hx)
  have h2 := (List.getElem?_eq_some_iff.1 hxj)
  have := (List.getElem_inj hpa.2).1 (h1.2.trans h2.2.symm)
  subst this
  exact hj
end
end Go.Proofs.Ytckmmgepoccopaa
