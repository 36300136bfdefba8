/- The dual of a maniplex is one: facts outside the walks. -/
import Derived.Test.YtmikoihpmhfafaaRin
namespace Go.Proofs.Ytmikoihpmhfafaa
open Go.RowKit

theorem wp_single {xss : List (List Int)} {n g : Nat} {m : List Int} (h : xss[g]? = some m) (hl : m.length = n) : wpL xss n [(g : Int)] = m := by
  apply List.ext_getElem?
  intro j
  by_cases hj : j < n
  · have hjm : j < m.length := by omega
    simp [wpL, hj, runW, stepW, List.getD, h, hjm]
  · rw [List.getElem?_eq_none (by rw [wpL_len]; omega), List.getElem?_eq_none (by omega)]
theorem wds_dual {xss : List (List Int)} {n : Nat} (hr : ∀ xs ∈ xss, xs.length = n) : wdsL xss n (dualW xss.length) = xss.reverse := by
  apply List.ext_getElem?
  intro j
  by_cases hj : j < xss.length
  · have hk : xss.length - 1 - j < xss.length := by omega
    rw [List.getElem?_reverse hj, List.getElem?_eq_getElem hk]
    have := wp_single (n := n) (List.getElem?_eq_getElem hk) (hr _ (List.getElem_mem hk))
    simp [wdsL, dualW, hj, this]
  · rw [List.getElem?_eq_none (by rw [wdsL_len, dualW_len]; omega), List.getElem?_eq_none (by simp; omega)]
theorem wds_sgl {xss : List (List Int)} {n : Nat} (hr : ∀ xs ∈ xss, xs.length = n) : wdsL xss n (sglW xss.length) = xss := by
  apply List.ext_getElem?
  intro j
  by_cases hj : j < xss.length
  · have := wp_single (n := n) (List.getElem?_eq_getElem hj) (hr _ (List.getElem_mem hj))
    simp [wdsL, sglW, hj, this]
  · rw [List.getElem?_eq_none (by rw [wdsL_len, sglW_len]; omega), List.getElem?_eq_none (by omega)]
section
variable {xss : List (List Int)}
theorem IsMan.rows (h : IsMan xss) : ∀ xs ∈ xss, xs.length = flN xss := fun xs hx => (h.row xs hx).1
theorem fl_rev (h : IsMan xss) : flN xss.reverse = flN xss := by
  have hl := h.r1
  have h0 : 0 < xss.reverse.length := by simp; omega
  rw [fl_of (List.getElem?_eq_getElem h0)]
  exact h.rows _ (List.mem_reverse.1 (List.getElem_mem h0))
theorem isMan_rev (h : IsMan xss) : IsMan xss.reverse := by
  have hfl := fl_rev h
  have hs := h.sys
  have hsr : okSys (flN xss) xss.reverse = true := decide_eq_true ⟨by omega, by have := h.f4; omega, by have := h.r5; simp; omega, fun xs hx => ⟨by rw [h.rows xs (List.mem_reverse.1 hx)], (h.row xs (List.mem_reverse.1 hx)).2.1⟩⟩
  refine ⟨by simpa using h.r1, by simpa using h.r5, by rw [hfl]; exact h.f2, by rw [hfl]; exact h.f4, fun xs hx => by rw [hfl]; exact h.row xs (List.mem_reverse.1 hx), fun i k p q hik hp hq => ?_, ?_⟩
  · rw [hfl]
    have h1 := (List.getElem?_eq_some_iff.1 hp).1
    have h2 := (List.getElem?_eq_some_iff.1 hq).1
    rw [List.length_reverse] at h1 h2
    rw [List.getElem?_reverse h1] at hp
    rw [List.getElem?_reverse h2] at hq
    have := h.sq _ _ q p (show xss.length - 1 - k + 2 ≤ xss.length - 1 - i by omega) hq hp
    intro f hf
    have hh := this f hf
    exact ⟨fun e => hh.1 e.symm, hh.2.symm⟩
  · rw [hfl]
    have hn : 0 < flN xss := by have := h.f2; omega
    obtain ⟨p1, m1, c1⟩ := orb_facts hsr hn
    obtain ⟨p0, m0, c0⟩ := orb_facts hs hn
    have hsub := orb_sub (q := 0) (S := orbL xss.reverse (flN xss) ((0 : Nat) : Int)) (xss := xss) (n := flN xss) (fun g hg x hx => c1 g (List.mem_reverse.2 hg) x hx) m1
    have hle := passed_len p1
    have hge : (orbL xss (flN xss) ((0 : Nat) : Int)).length ≤ (orbL xss.reverse (flN xss) ((0 : Nat) : Int)).length := List.Nodup.length_le_of_subset p0.2 hsub
    have := h.orb
    simp only [Int.natCast_zero] at hge hle ⊢
    omega
theorem dual_eq (h : IsMan xss) : dualL xss (flN xss) = frmL xss.reverse (flN xss) 0 := by
  have hr := isMan_rev h
  have hfl := fl_rev h
  have hs := hr.sys
  rw [hfl] at hs
  have hn : 0 < flN xss := by have := h.f2; omega
  have ho := hr.all (q := 0) (by rw [hfl]; exact hn)
  rw [hfl] at ho
  rw [frm_eq_sec hs hn ho, dualL, repL, wds_dual h.rows]
theorem dual_man (h : okMan xss = true) : okMan (dualL xss (flN xss)) = true := by
  have hm := okMan_iff.1 h
  have hr := isMan_rev hm
  have hfl := fl_rev hm
  rw [dual_eq hm]
  have := (frm_same (p := 0) hr (by rw [hfl]; have := hm.f2; omega)).man
  rw [hfl] at this
  exact okMan_true this
end
end Go.Proofs.Ytmikoihpmhfafaa
