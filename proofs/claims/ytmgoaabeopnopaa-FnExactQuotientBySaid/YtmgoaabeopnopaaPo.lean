/- The opposite of a poset; plain facts. -/
import Derived.Test.YtmgoaabeopnopaaL14
namespace Go.Proofs.Ytmgoaabeopnopaa

/-- Of the first k new elements those above the new element i. -/
def opTo (bss : List (List Int)) (i k : Nat) : List Int := ((List.range k).filter fun (g : Nat) => decide (((bss.length - 1 - i : Nat) : Int) ∈ bss.getD (bss.length - 1 - g) [])).map fun (g : Nat) => (g : Int)
def opB (bss : List (List Int)) : List (List Int) := (List.range bss.length).map fun (i : Nat) => opTo bss i i
def opX (R : Int) (xs : List Int) : List Int := xs.reverse.map fun x => R - 1 - x
section
variable {R : Int} {xs : List Int} {bss : List (List Int)} {i k g : Nat}
theorem opTo_zero : opTo bss i 0 = [] := rfl
theorem opTo_succ : opTo bss i (k + 1) = opTo bss i k ++ (if ((bss.length - 1 - i : Nat) : Int) ∈ bss.getD (bss.length - 1 - k) [] then [(k : Int)] else []) := by
  unfold opTo
  rw [List.range_succ, List.filter_append, List.map_append]
  congr 1
  by_cases h : ((bss.length - 1 - i : Nat) : Int) ∈ bss.getD (bss.length - 1 - k) []
  · rw [if_pos h, List.filter_cons_of_pos (p := fun (g : Nat) => decide (((bss.length - 1 - i : Nat) : Int) ∈ bss.getD (bss.length - 1 - g) [])) (decide_eq_true h)]; rfl
  · rw [if_neg h, List.filter_cons_of_neg (p := fun (g : Nat) => decide (((bss.length - 1 - i : Nat) : Int) ∈ bss.getD (bss.length - 1 - g) [])) (by rw [decide_eq_true_eq]; exact h)]; rfl
theorem opTo_len : (opTo bss i k).length ≤ k := by
  unfold opTo
  rw [List.length_map]
  exact Nat.le_trans (List.length_filter_le _ _) (by simp)
theorem opTo_mem {x : Int} : x ∈ opTo bss i k ↔ ∃ g : Nat, x = (g : Int) ∧ g < k ∧ ((bss.length - 1 - i : Nat) : Int) ∈ bss.getD (bss.length - 1 - g) [] := by
  unfold opTo
  constructor
  · intro h
    obtain ⟨g, h1, rfl⟩ := List.mem_map.1 h
    obtain ⟨h2, h3⟩ := List.mem_filter.1 h1
    exact ⟨g, rfl, by simpa using h2, of_decide_eq_true h3⟩
  · rintro ⟨g, rfl, h1, h2⟩
    exact List.mem_map.2 ⟨g, List.mem_filter.2 ⟨by simpa using h1, decide_eq_true h2⟩, rfl⟩
theorem getD_some {b : List Int} (h : bss[k]? = some b) : bss.getD k [] = b := by simp [List.getD, h]
/-- No element is above one that lies before it. -/
theorem opTo_late (ok : OkPos R xs bss) (hi : i < bss.length) (hk : i ≤ k) (hkl : k ≤ bss.length) : opTo bss i k = opTo bss i i := by
  induction k with
  | zero => have : i = 0 := by omega
            subst this; rfl
  | succ k ih =>
    by_cases he : i = k + 1
    · subst he; rfl
    · rw [opTo_succ, ih (by omega) (by omega), if_neg, List.append_nil]
      intro hin
      obtain ⟨b, hb⟩ : ∃ b, bss[bss.length - 1 - k]? = some b := ⟨_, List.getElem?_eq_getElem (by omega)⟩
      rw [getD_some hb] at hin
      obtain ⟨j, _, _, h1, h2, _⟩ := ok.el hb hin
      omega
theorem opB_len : (opB bss).length = bss.length := by simp [opB]
theorem opB_at (h : i < bss.length) : (opB bss)[i]? = some (opTo bss i i) := by simp [opB, h]
theorem opX_len : (opX R xs).length = xs.length := by simp [opX]
theorem opX_at {e : Nat} {x : Int} (h : xs[e]? = some x) : (opX R xs)[xs.length - 1 - e]? = some (R - 1 - x) := by
  have he := (List.getElem?_eq_some_iff.1 h).1
  unfold opX
  rw [List.getElem?_map, List.getElem?_reverse (by omega)]
  have : xs.length - 1 - (xs.length - 1 - e) = e := by omega
  rw [this, h]
  rfl
/-- The rows while the list b, of the element before which g lie, is gone through; t are done. -/
def opSt (bss : List (List Int)) (g : Nat) (b : List Int) (t : Nat) : List (List Int) := (List.range bss.length).map fun (i : Nat) => opTo bss i g ++ (if ((bss.length - 1 - i : Nat) : Int) ∈ b.take t then [(g : Int)] else [])
theorem opSt_len {b : List Int} {t : Nat} : (opSt bss g b t).length = bss.length := by simp [opSt]
theorem opSt_at {b : List Int} {t : Nat} (h : i < bss.length) : (opSt bss g b t)[i]? = some (opTo bss i g ++ (if ((bss.length - 1 - i : Nat) : Int) ∈ b.take t then [(g : Int)] else [])) := by simp [opSt, h]
theorem opSt_start : opSt bss 0 [] 0 = List.replicate bss.length [] := by
  apply List.ext_getElem?
  intro i
  by_cases h : i < bss.length
  · rw [opSt_at h]; simp [h, opTo_zero]
  · rw [List.getElem?_eq_none (by rw [opSt_len]; omega), List.getElem?_eq_none (by simp; omega)]
theorem opSt_zero {b b' : List Int} : opSt bss g b 0 = opSt bss g b' 0 := by simp [opSt]
theorem opSt_next {b : List Int} {t : Nat} (hb : bss[bss.length - 1 - g]? = some b) (ht : b.length ≤ t) : opSt bss g b t = opSt bss (g + 1) [] 0 := by
  unfold opSt
  apply List.map_congr_left
  intro i _
  rw [opTo_succ, getD_some hb, List.take_of_length_le ht]
  simp
theorem opSt_set {b : List Int} {t m : Nat} (hm : m < bss.length) (hd : b[t]? = some (m : Int)) (hno : ¬ (m : Int) ∈ b.take t) :
    (opSt bss g b t)[bss.length - 1 - m]? = some (opTo bss (bss.length - 1 - m) g) ∧ (opSt bss g b t).set (bss.length - 1 - m) (opTo bss (bss.length - 1 - m) g ++ [(g : Int)]) = opSt bss g b (t + 1) := by
  have e1 : bss.length - 1 - (bss.length - 1 - m) = m := by omega
  have hts : b.take (t + 1) = b.take t ++ [(m : Int)] := by rw [List.take_add_one, hd]; rfl
  refine ⟨by rw [opSt_at (by omega), e1, if_neg hno, List.append_nil], ?_⟩
  apply List.ext_getElem?
  intro i
  by_cases h : i < bss.length
  · by_cases hi : i = bss.length - 1 - m
    · subst hi
      rw [List.getElem?_set_self (by rw [opSt_len]; exact h), opSt_at h, e1, hts, if_pos (List.mem_append.2 (.inr (by simp)))]
    · rw [List.getElem?_set_ne (fun e => hi e.symm), opSt_at h, opSt_at h, hts]
      have hne : ¬ ((bss.length - 1 - i : Nat) : Int) = (m : Int) := by omega
      simp only [List.mem_append, List.mem_singleton, hne, or_false]
  · rw [List.getElem?_eq_none (by simp [opSt_len]; omega), List.getElem?_eq_none (by rw [opSt_len]; omega)]
theorem opSt_all (ok : OkPos R xs bss) : opSt bss bss.length [] 0 = opB bss := by
  unfold opSt opB
  apply List.map_congr_left
  intro i hi
  have hi : i < bss.length := by simpa using hi
  rw [opTo_late ok hi (by omega) (Nat.le_refl _)]
  simp
theorem opB_row : ∀ b ∈ opB bss, b.length ≤ bss.length := by
  intro b hb
  obtain ⟨i, hi, rfl⟩ := List.mem_map.1 hb
  have := opTo_len (bss := bss) (i := i) (k := i)
  have : i < bss.length := by simpa using hi
  omega
theorem opSt_row {b : List Int} {t : Nat} (hi : i < bss.length) {r : List Int} (h : (opSt bss g b t)[i]? = some r) : r.length ≤ g + 1 := by
  rw [opSt_at hi] at h
  injection h with h
  subst h
  have := opTo_len (bss := bss) (i := i) (k := g)
  rw [List.length_append]
  split <;> simp <;> omega
/-- In an ascending list no element comes twice. -/
theorem inc_fresh {b : List Int} {t : Nat} {d : Int} (h : ∀ (i j : Nat) (c d : Int), i < j → b[i]? = some c → b[j]? = some d → c < d) (hd : b[t]? = some d) : ¬ d ∈ b.take t := by
  intro hin
  obtain ⟨i, hi, he⟩ := List.mem_iff_getElem.1 hin
  have hi2 : i < t ∧ i < b.length := by simp at hi; omega
  have h1 : b[i]? = some d := by rw [List.getElem_take] at he; rw [List.getElem?_eq_getElem hi2.2, he]
  have := h i t d d hi2.1 h1 hd
  omega

/-- The opposite of a poset is a poset. -/
theorem opB_ok (ok : OkPos R xs bss) : OkPos R (opX R xs) (opB bss) := by
  have hl : bss.length = xs.length := ok.ranks.len
  have at' : ∀ (i : Nat) (x : Int), (opX R xs)[i]? = some x → i < xs.length ∧ xs[xs.length - 1 - i]? = some (R - 1 - x) := by
    intro i x h
    have hi : i < xs.length := by have := (List.getElem?_eq_some_iff.1 h).1; rwa [opX_len] at this
    obtain ⟨y, hy⟩ : ∃ y, xs[xs.length - 1 - i]? = some y := ⟨_, List.getElem?_eq_getElem (by omega)⟩
    have h2 := opX_at (R := R) hy
    have e1 : xs.length - 1 - (xs.length - 1 - i) = i := by omega
    rw [e1, h] at h2
    injection h2 with h2
    refine ⟨hi, by rw [hy, h2]; congr 1; omega⟩
  refine ⟨⟨ok.ranks.r1, ok.ranks.r5, by rw [opX_len]; exact ok.ranks.n, by rw [opB_len, opX_len, hl], ?_, ?_⟩, ?_, ?_⟩
  · intro e x h
    have := ok.ranks.rk _ _ (at' e x h).2
    omega
  · intro e f x y hef hx hy
    have h1 := at' e x hx
    have h2 := at' f y hy
    have := ok.ranks.asc _ _ _ _ (show xs.length - 1 - f ≤ xs.length - 1 - e by omega) h2.2 h1.2
    omega
  · intro i b hb
    have hi : i < bss.length := by have := (List.getElem?_eq_some_iff.1 hb).1; rwa [opB_len] at this
    rw [opB_at hi] at hb
    injection hb with hb
    subst hb
    refine ⟨?_, ?_⟩
    · intro p d hd
      obtain ⟨g, rfl, h1, h2⟩ := opTo_mem.1 (List.mem_of_getElem? hd)
      obtain ⟨c, hc⟩ : ∃ c, bss[bss.length - 1 - g]? = some c := ⟨_, List.getElem?_eq_getElem (by omega)⟩
      rw [getD_some hc] at h2
      obtain ⟨j, x, y, h3, h4, h5, h6, h7⟩ := ok.el hc h2
      obtain rfl : bss.length - 1 - i = j := by omega
      rw [hl] at h5 h6
      have h8 := opX_at (R := R) h5
      have h9 := opX_at (R := R) h6
      have e1 : xs.length - 1 - (xs.length - 1 - i) = i := by omega
      have e2 : xs.length - 1 - (xs.length - 1 - g) = g := by omega
      rw [e1] at h8
      rw [e2] at h9
      exact ⟨g, _, _, rfl, h1, h9, h8, by omega⟩
    · intro p q c d hpq hc hd
      have hs : (opTo bss i i).Pairwise (· < ·) := by
        unfold opTo
        refine List.pairwise_map.2 (List.Pairwise.imp ?_ (List.Pairwise.filter _ (List.pairwise_lt_range (n := i))))
        intro a b hab
        omega
      have h1 := (List.getElem?_eq_some_iff.1 hc)
      have h2 := (List.getElem?_eq_some_iff.1 hd)
      obtain ⟨hp, rfl⟩ := h1
      obtain ⟨hq, rfl⟩ := h2
      exact List.pairwise_iff_getElem.1 hs p q hp hq hpq
  · intro i b hb d hd j r hj hr c hc
    have hi : i < bss.length := by have := (List.getElem?_eq_some_iff.1 hb).1; rwa [opB_len] at this
    rw [opB_at hi] at hb
    injection hb with hb
    subst hb
    obtain ⟨g, rfl, h1, h2⟩ := opTo_mem.1 hd
    obtain rfl : g = j := by omega
    rw [opB_at (by omega)] at hr
    injection hr with hr
    subst hr
    obtain ⟨f, rfl, h3, h4⟩ := opTo_mem.1 hc
    refine opTo_mem.2 ⟨f, rfl, by omega, ?_⟩
    obtain ⟨b1, hb1⟩ : ∃ b, bss[bss.length - 1 - g]? = some b := ⟨_, List.getElem?_eq_getElem (by omega)⟩
    obtain ⟨b2, hb2⟩ : ∃ b, bss[bss.length - 1 - f]? = some b := ⟨_, List.getElem?_eq_getElem (by omega)⟩
    rw [getD_some hb1] at h2
    rw [getD_some hb2] at h4 ⊢
    exact ok.tr _ b2 hb2 _ h4 _ b1 rfl hb1 _ h2
end
end Go.Proofs.Ytmgoaabeopnopaa
