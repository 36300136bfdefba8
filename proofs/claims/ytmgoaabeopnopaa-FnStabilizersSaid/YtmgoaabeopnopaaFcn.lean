/- Labels are numbered by least points; what FnFaces asks. -/
import Derived.Test.YtmgoaabeopnopaaL18
import Derived.BigQuiet
namespace Go.Proofs.Ytmgoaabeopnopaa
open Go.RowKit

section
variable {yss : List (List Int)} {n p q k : Nat}
theorem orbsTo_pre : ∀ d, orbsTo yss n k <+: orbsTo yss n (k + d)
  | 0 => List.prefix_refl _
  | d + 1 => (orbsTo_pre d).trans (by
    rw [← Nat.add_assoc]
    conv => rhs; unfold orbsTo
    split
    · exact List.prefix_refl _
    · exact List.prefix_append _ _)
theorem orbsTo_get {j : Nat} {o : List Int} (hk : k ≤ n) (h : (orbsTo yss n k)[j]? = some o) : (orbsTo yss n n)[j]? = some o := by
  obtain ⟨d, rfl⟩ := Nat.exists_eq_add_of_le hk
  obtain ⟨t, ht⟩ := orbsTo_pre (yss := yss) (n := k + d) (k := k) d
  rw [← ht, List.getElem?_append_left (List.getElem?_eq_some_iff.1 h).1]
  exact h
/-- The label of a point: an old one, or the next one. -/
theorem lab_next (hsys : okSys n yss = true) (hp : p < n) : ∃ j : Nat, (labL yss n)[p]? = some (j : Int) ∧ ((j < (orbsTo yss n p).length ∧ (orbsTo yss n (p + 1)).length = (orbsTo yss n p).length) ∨ (j = (orbsTo yss n p).length ∧ (orbsTo yss n (p + 1)).length = (orbsTo yss n p).length + 1)) := by
  by_cases hin : (p : Int) ∈ (orbsTo yss n p).flatten
  · obtain ⟨o, ho, hpo⟩ := List.mem_flatten.1 hin
    obtain ⟨j, hj, he⟩ := List.mem_iff_getElem.1 ho
    have hg : (orbsTo yss n p)[j]? = some o := by rw [List.getElem?_eq_getElem hj, he]
    exact ⟨j, (lab_iff hsys hp).2 ⟨o, orbsTo_get (by omega) hg, hpo⟩, .inl ⟨hj, by rw [orbsTo_in hin]⟩⟩
  · have h1 := orbsTo_out hin
    have hg : (orbsTo yss n (p + 1))[(orbsTo yss n p).length]? = some (orbL yss n p) := by rw [h1]; simp
    refine ⟨_, (lab_iff hsys hp).2 ⟨_, orbsTo_get (by omega) hg, (orb_facts hsys hp).2.1⟩, .inr ⟨rfl, by rw [h1]; simp⟩⟩
theorem grt_take (hsys : okSys n yss = true) : ∀ k, k ≤ n → grtL ((labL yss n).take k) = ((orbsTo yss n k).length : Int)
  | 0, _ => by simp [grtL, orbsTo]
  | k + 1, hk => by
    have ih := grt_take hsys k (by omega)
    obtain ⟨j, hj, h⟩ := lab_next hsys (p := k) (by omega)
    rw [grtL_succ hj, ih]
    rcases h with ⟨h1, h2⟩ | ⟨h1, h2⟩
    · rw [if_neg (by omega), h2]
    · rw [if_pos (by omega), h2, h1]
      omega
/-- A move leads to a point with the same label. -/
theorem lab_move {g : List Int} {x : Int} (hsys : okSys n yss = true) (hg : g ∈ yss) (hp : p < n) (hq : q < n) (hm : g[p]? = some (q : Int)) (hx : (labL yss n)[p]? = some x) : (labL yss n)[q]? = some x := by
  obtain ⟨j, hj⟩ := Int.eq_ofNat_of_zero_le (labL_in hsys x (List.mem_of_getElem? hx)).1
  subst hj
  obtain ⟨o, ho, hpo⟩ := (lab_iff hsys hp).1 hx
  refine (lab_iff hsys hq).2 ⟨o, ho, ?_⟩
  obtain ⟨r, hr, rfl⟩ := orbsTo_of n (List.mem_of_getElem? ho)
  have := (orb_facts hsys hr).2.2 g hg _ hpo
  rwa [fz_at hm] at this
end
section
variable {xss : List (List Int)} {n i k f q : Nat} {g : List Int} {x : Int}
theorem fac_next (hsys : okSys n xss = true) (hf : f < n) : ∃ j : Nat, (facL xss n i)[f]? = some (j : Int) ∧ ((j < (orbsTo (xss.eraseIdx i) n f).length ∧ (orbsTo (xss.eraseIdx i) n (f + 1)).length = (orbsTo (xss.eraseIdx i) n f).length) ∨ (j = (orbsTo (xss.eraseIdx i) n f).length ∧ (orbsTo (xss.eraseIdx i) n (f + 1)).length = (orbsTo (xss.eraseIdx i) n f).length + 1)) :=
  lab_next (okSys_erase hsys i) hf
theorem fac_move (hsys : okSys n xss = true) (hg : xss[k]? = some g) (hki : k ≠ i) (hf : f < n) (hq : q < n) (hm : g[f]? = some (q : Int)) (hx : (facL xss n i)[f]? = some x) : (facL xss n i)[q]? = some x := by
  refine lab_move (okSys_erase hsys i) ?_ hf hq hm hx
  refine List.mem_iff_getElem?.2 ?_
  by_cases h : k < i
  · exact ⟨k, by rw [List.getElem?_eraseIdx, if_pos h]; exact hg⟩
  · refine ⟨k - 1, ?_⟩
    rw [List.getElem?_eraseIdx, if_neg (by omega), show k - 1 + 1 = k by omega]
    exact hg
theorem fac_cnt (hsys : okSys n xss = true) (hn : 0 < n) : grtL (facL xss n i) = ((orbsTo (xss.eraseIdx i) n n).length : Int) := lab_cnt (okSys_erase hsys i) hn
theorem orbsTo_le (hsys : okSys n xss = true) (hk : k ≤ n) : (orbsTo (xss.eraseIdx i) n k).length ≤ k := (orbsTo_facts (okSys_erase hsys i) k hk).2.2.1
end
section
variable {A : Option Addr} {n c : Nat} {bs : List Value}
end
end Go.Proofs.Ytmgoaabeopnopaa
