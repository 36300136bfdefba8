/- The numbers of the orbits of flags, and to which orbits moves lead them. Plain facts. -/
import Derived.Test.YtmikoihpmhfafaaAh
import Derived.Test.YtmikoihpmhfafaaL8
namespace Go.Proofs.Ytmikoihpmhfafaa
open Go.RowKit

section
variable {xss : List (List Int)} {f p q : Nat} {g : List Int}
/-- How many orbits there are. -/
noncomputable def ocn (xss : List (List Int)) : Nat := (orbsTo (autL xss) (flN xss) (flN xss)).length
noncomputable def oL (xss : List (List Int)) : List Int := labL (autL xss) (flN xss)
theorem oL_len : (oL xss).length = flN xss := labL_length _ _
theorem oL_ok (hm : IsMan xss) {i : Nat} {o : List Int} (ho : (orbsTo (autL xss) (flN xss) (flN xss))[i]? = some o) (hp : (p : Int) ∈ o) : (oL xss)[p]? = some (i : Int) := by
  have hpa := (Big.orbsTo_facts (aut_big hm) (flN xss) (Nat.le_refl _)).1
  have hpr := hpa.1 _ (List.mem_flatten.2 ⟨o, List.mem_of_getElem? ho, hp⟩)
  have hex : ∃ x ∈ orbsTo (autL xss) (flN xss) (flN xss), decide ((p : Int) ∈ x) = true := ⟨o, List.mem_of_getElem? ho, by simpa using hp⟩
  have hlt := List.findIdx_lt_length_of_exists hex
  have hat := List.findIdx_getElem (w := hlt)
  have hat : (p : Int) ∈ (orbsTo (autL xss) (flN xss) (flN xss))[(orbsTo (autL xss) (flN xss) (flN xss)).findIdx fun x => decide ((p : Int) ∈ x)] := by simpa using hat
  have e := flat_idx hpa.2 (List.getElem?_eq_getElem hlt) ho hat hp
  unfold oL labL
  rw [List.getElem?_map, List.getElem?_range (by omega)]
  simp only [Option.map_some]
  rw [e]
theorem oL_at (hm : IsMan xss) (hf : f < flN xss) : ∃ j : Nat, j < ocn xss ∧ (oL xss)[f]? = some (j : Int) := by
  obtain ⟨i, o, ho, hp⟩ := labA_has hm (f := flN xss) (Nat.le_refl _) hf
  exact ⟨i, (List.getElem?_eq_some_iff.1 ho).1, oL_ok hm ho hp⟩
theorem oL_same (hm : IsMan xss) (hp : p < flN xss) (hq : q < flN xss) : fz (oL xss) p = fz (oL xss) q ↔ SameF xss p q := by
  obtain ⟨i, o, ho, hpo⟩ := labA_has hm (f := flN xss) (Nat.le_refl _) hp
  obtain ⟨j, o', ho', hqo⟩ := labA_has hm (f := flN xss) (Nat.le_refl _) hq
  rw [fz_at (oL_ok hm ho hpo), fz_at (oL_ok hm ho' hqo), ← orb_idx hm (Nat.le_refl _) hp hq ho hpo]
  constructor
  · intro h
    have : i = j := by omega
    subst this
    rw [ho] at ho'
    injection ho' with ho'
    rw [ho']
    exact hqo
  · intro h
    have := flat_idx (Big.orbsTo_facts (aut_big hm) (flN xss) (Nat.le_refl _)).1.2 ho ho' h hqo
    omega
/-- Each number is met. -/
theorem oL_onto (hm : IsMan xss) {j : Nat} (hj : j < ocn xss) : ∃ f, f < flN xss ∧ (oL xss)[f]? = some (j : Int) := by
  have hall : ∀ k, k ≤ flN xss → ∀ (i : Nat) (o : List Int), (orbsTo (autL xss) (flN xss) k)[i]? = some o → ∃ r : Nat, r < flN xss ∧ (r : Int) ∈ o := by
    intro k
    induction k with
    | zero => intro _ i o h; simp [orbsTo] at h
    | succ k ih =>
      intro hk i o h
      by_cases hin : (k : Int) ∈ (orbsTo (autL xss) (flN xss) k).flatten
      · rw [orbsTo_in hin] at h
        exact ih (by omega) i o h
      · rw [orbsTo_out hin] at h
        rcases get_snoc' h with h1 | h1
        · exact ih (by omega) i o h1
        · subst h1
          exact ⟨k, by omega, (aorb_mem hm (by omega)).2 (sameF_refl hm (by omega))⟩
  have ho := List.getElem?_eq_getElem (l := orbsTo (autL xss) (flN xss) (flN xss)) hj
  obtain ⟨r, hr, hro⟩ := hall _ (Nat.le_refl _) j _ ho
  exact ⟨r, hr, oL_ok hm ho hro⟩
theorem oL_in (hm : IsMan xss) : ∀ x ∈ oL xss, 0 ≤ x ∧ x < (ocn xss : Int) := by
  intro x hx
  obtain ⟨f, hf, he⟩ := List.mem_iff_getElem.1 hx
  rw [oL_len] at hf
  obtain ⟨j, hj, hx⟩ := oL_at hm hf
  rw [List.getElem?_eq_getElem (by rw [oL_len]; exact hf), he] at hx
  injection hx with hx
  omega
theorem ocn_le (hm : IsMan xss) : ocn xss ≤ flN xss := (Big.orbsTo_facts (aut_big hm) (flN xss) (Nat.le_refl _)).2.2.1
theorem ocn_pos (hm : IsMan xss) : 0 < ocn xss := by
  obtain ⟨j, hj, _⟩ := oL_at hm (f := 0) (by have := hm.f2; omega)
  omega
theorem grt_fold : ∀ (l : List Int) (a b : Int), a ≤ b → (∀ x ∈ l, x < b) → (a = b ∨ (b - 1) ∈ l) → l.foldl (fun a x => if a ≤ x then x + 1 else a) a = b
  | [], a, b, _, _, h => by
    rcases h with h | h
    · exact h
    · simp at h
  | x :: l, a, b, hab, hx, h => by
    rw [List.foldl_cons]
    have hxb := hx x (by simp)
    refine grt_fold l _ b ?_ (fun y hy => hx y (by simp [hy])) ?_
    · split <;> omega
    · rcases h with h | h
      · left
        rw [if_neg (by omega)]; exact h
      · rcases List.mem_cons.1 h with h1 | h1
        · left
          split <;> omega
        · exact .inr h1
theorem oL_grt (hm : IsMan xss) : grtL (oL xss) = (ocn xss : Int) := by
  refine grt_fold _ 0 _ (by omega) (fun x hx => (oL_in hm x hx).2) (.inr ?_)
  have hp := ocn_pos hm
  obtain ⟨f, hf, he⟩ := oL_onto hm (j := ocn xss - 1) (by omega)
  have := List.mem_of_getElem? he
  rwa [show ((ocn xss - 1 : Nat) : Int) = (ocn xss : Int) - 1 by omega] at this
/-- Moves lead flags of one orbit to flags of one orbit. -/
theorem same_move (hm : IsMan xss) (hg : g ∈ xss) (hp : p < flN xss) (h : SameF xss p q) {a b : Nat} (ha : fz g p = (a : Int)) (hb : fz g q = (b : Int)) : SameF xss a b := by
  obtain ⟨L, hL, he⟩ := h
  obtain ⟨i, hi, hgi⟩ := List.mem_iff_getElem.1 hg
  have hgs : xss[i]? = some g := by rw [List.getElem?_eq_getElem hi, hgi]
  have := ((aut_iff hm).1 hL).mv i g g hgs hgs p hp
  rw [ha, he, hb] at this
  exact ⟨L, hL, this⟩
/-- To which orbits a move leads the orbits. -/
noncomputable def stRow (xss : List (List Int)) (g : List Int) : List Int := (List.range (ocn xss)).map fun (o : Nat) => fz (oL xss) (fz g (idxL (oL xss) (o : Int)))
noncomputable def stL (xss : List (List Int)) : List (List Int) := xss.map (stRow xss)
theorem stRow_len : (stRow xss g).length = ocn xss := by simp [stRow]
theorem stL_len : (stL xss).length = xss.length := by simp [stL]
theorem stRow_at (hm : IsMan xss) (hg : g ∈ xss) (hf : f < flN xss) {j : Nat} (hj : (oL xss)[f]? = some (j : Int)) : (stRow xss g)[j]? = some (fz (oL xss) (fz g f)) := by
  have hjl : j < ocn xss := by have := (oL_in hm _ (List.mem_of_getElem? hj)).2; omega
  have hi := fz_idx (List.mem_of_getElem? hj)
  obtain ⟨a, ha⟩ := Int.eq_ofNat_of_zero_le hi.1
  rw [oL_len] at hi
  have han : a < flN xss := by omega
  have hgf := sys_img hm.sys hg (x := (f : Int)) (by omega) (by omega)
  have hga := sys_img hm.sys hg (x := (a : Int)) (by omega) (by omega)
  obtain ⟨u, hu⟩ := Int.eq_ofNat_of_zero_le hgf.1
  obtain ⟨v, hv⟩ := Int.eq_ofNat_of_zero_le hga.1
  have hs : SameF xss a f := by
    rw [← oL_same hm han hf, fz_at hj, ← ha]
    exact hi.2.2
  have h2 := (oL_same hm (by omega) (by omega)).2 (same_move hm hg han hs hv hu)
  unfold stRow
  rw [List.getElem?_map, List.getElem?_range hjl]
  simp only [Option.map_some]
  rw [ha, hv, hu, h2]
/-- What the row holds when the flags below f are done. -/
def StR (xss : List (List Int)) (g : List Int) (f : Nat) (D : List Int) : Prop := D.length = ocn xss ∧ ∀ k : Nat, k < f → ∀ j : Nat, (oL xss)[k]? = some (j : Int) → D[j]? = some (fz (oL xss) (fz g k))
theorem stR_start : StR xss g 0 (List.replicate (ocn xss) 0) := ⟨by simp, fun k hk => by omega⟩
theorem stR_step {D : List Int} {j : Nat} (hm : IsMan xss) (hg : g ∈ xss) (hf : f < flN xss) (h : StR xss g f D) (hj : (oL xss)[f]? = some (j : Int)) : StR xss g (f + 1) (D.set j (fz (oL xss) (fz g f))) := by
  have hjl : j < ocn xss := by have := (oL_in hm _ (List.mem_of_getElem? hj)).2; omega
  refine ⟨by simp [h.1], fun k hk i hi => ?_⟩
  by_cases e : j = i
  · subst e
    rw [List.getElem?_set_self (by rw [h.1]; exact hjl)]
    have h1 := stRow_at hm hg hf hj
    have h2 := stRow_at hm hg (show k < flN xss by omega) hi
    rw [h1] at h2
    exact h2
  · rw [List.getElem?_set_ne e]
    rcases Nat.lt_succ_iff_lt_or_eq.1 hk with h1 | rfl
    · exact h.2 k h1 i hi
    · rw [hj] at hi; injection hi with hi; omega
theorem stR_done {D : List Int} (hm : IsMan xss) (hg : g ∈ xss) (h : StR xss g (flN xss) D) : D = stRow xss g := by
  apply List.ext_getElem?
  intro j
  by_cases hj : j < ocn xss
  · obtain ⟨f, hf, he⟩ := oL_onto hm hj
    rw [h.2 f hf j he, stRow_at hm hg hf he]
  · rw [List.getElem?_eq_none (by rw [h.1]; omega), List.getElem?_eq_none (by rw [stRow_len]; omega)]
/-- Chiral: two orbits, and each move leads the one to the other. -/
theorem chi_iff (hm : IsMan xss) : (∀ r ∈ stL xss, r = [1, 0]) ↔ ocn xss = 2 ∧ ∀ g ∈ xss, ∀ f, f < flN xss → fz (oL xss) (fz g f) ≠ fz (oL xss) f := by
  have hpos : 0 < xss.length := by have := hm.r1; omega
  constructor
  · intro h
    have hc : ocn xss = 2 := by
      have := h _ (List.mem_map.2 ⟨xss[0], List.getElem_mem hpos, rfl⟩)
      have hl := congrArg List.length this
      rw [stRow_len] at hl
      exact hl
    refine ⟨hc, fun g hg f hf => ?_⟩
    have hr := h _ (List.mem_map.2 ⟨g, hg, rfl⟩)
    obtain ⟨j, hj, hjo⟩ := oL_at hm hf
    have h1 := stRow_at hm hg hf hjo
    rw [hr] at h1
    rw [fz_at hjo]
    rcases (show j = 0 ∨ j = 1 by omega) with rfl | rfl
    · simp at h1; omega
    · simp at h1; omega
  · rintro ⟨hc, hd⟩ r hr
    obtain ⟨g, hg, rfl⟩ := List.mem_map.1 hr
    have key : ∀ j : Nat, j < 2 → (stRow xss g)[j]? = some (1 - (j : Int)) := by
      intro j hj
      obtain ⟨f, hf, he⟩ := oL_onto hm (j := j) (by omega)
      rw [stRow_at hm hg hf he]
      have h1 := hd g hg f hf
      rw [fz_at he] at h1
      have hgf := sys_img hm.sys hg (x := (f : Int)) (by omega) (by omega)
      obtain ⟨u, hu⟩ := Int.eq_ofNat_of_zero_le hgf.1
      obtain ⟨i, hi, hio⟩ := oL_at hm (f := u) (by omega)
      rw [hu, fz_at hio] at h1 ⊢
      congr 1
      omega
    apply List.ext_getElem?
    intro j
    by_cases hj : j < 2
    · rw [key j hj]
      rcases (show j = 0 ∨ j = 1 by omega) with rfl | rfl <;> rfl
    · rw [List.getElem?_eq_none (by rw [stRow_len, hc]; omega), List.getElem?_eq_none (by simp; omega)]
end
noncomputable def stR6 (xss : List (List Int)) : List (List Int) := if okMan xss then stL xss else []
theorem stR6_le (xss : List (List Int)) : (stR6 xss).length ≤ 1048576 ∧ ∀ xs ∈ stR6 xss, (xs.length : Int) ≤ 1048576 := by
  unfold stR6
  split
  · rename_i h
    have hm := okMan_iff.1 h
    have h5 := hm.r5
    have h4 := hm.f4
    have := ocn_le hm
    refine ⟨by rw [stL_len]; omega, fun xs hx => ?_⟩
    obtain ⟨g, _, rfl⟩ := List.mem_map.1 hx
    rw [stRow_len]
    omega
  · simp
noncomputable def chB (xss : List (List Int)) : Bool := okMan xss && @decide (∀ r ∈ stL xss, r = [1, 0]) (Classical.propDecidable _)
end Go.Proofs.Ytmikoihpmhfafaa
