/- spec.l03Poset: facts outside the walk. -/
import Derived.Test.YtmfddenjemoedaaSr
import Derived.Test.YtmfddenjemoedaaL12
namespace Go.Proofs.Ytmfddenjemoedaa
open Go.RowKit

/-- The element that is the face of the rank i of the flag f. -/
def fE (xss : List (List Int)) (n i f : Nat) : Nat := fstE xss n i + ((facL xss n i).getD f 0).toNat
def FR (xss : List (List Int)) (n i e d : Nat) : Prop := ∃ f k : Nat, f < n ∧ k < i ∧ fE xss n i f = e ∧ fE xss n k f = d
def posN (xss : List (List Int)) (n S i f k : Nat) : Nat := fE xss n i f * S + fE xss n k f
/-- The places that are marked, as far as the flags before f, and t ranks of the flag f, are done. -/
def posL (xss : List (List Int)) (n S i f t : Nat) : List Int := ((List.range f).flatMap fun f' => (List.range i).map fun k => ((posN xss n S i f' k : Nat) : Int)) ++ (List.range t).map fun k => ((posN xss n S i f k : Nat) : Int)
noncomputable def addL (xss : List (List Int)) (n i e d : Nat) : List Int := ((List.range d).filter fun x => pB (FR xss n i e x)).map fun (x : Nat) => (x : Int)
noncomputable def blTo (xss : List (List Int)) (n S : Nat) : Nat → Nat → List Int
  | 0, _ => []
  | i + 1, e => blTo xss n S i e ++ addL xss n i e S
noncomputable def rwP (xss : List (List Int)) (n S i e d e' : Nat) : List Int := if e' < e then blTo xss n S (i + 1) e' else if e' = e then blTo xss n S i e' ++ addL xss n i e' d else blTo xss n S i e'
noncomputable def rowsP (xss : List (List Int)) (n S i e d : Nat) : List (List Int) := (List.range S).map (rwP xss n S i e d)
def fsL (xss : List (List Int)) (n k : Nat) : List Int := (List.range k).map fun (i : Nat) => (fstE xss n i : Int)
def lbL (xss : List (List Int)) (n k : Nat) : List (List Int) := (List.range k).map fun (i : Nat) => facL xss n i
section
variable {xss : List (List Int)} {n N S i f t e d k : Nat}
theorem facL_at (hf : f < n) : (facL xss n i)[f]? = some ((facL xss n i).getD f 0) := by
  have : f < (facL xss n i).length := by rw [facL_len]; exact hf
  simp [List.getD, this]
theorem fE_bd (hsys : okSys n xss = true) (hf : f < n) : fstE xss n i ≤ fE xss n i f ∧ fE xss n i f < fstE xss n (i + 1) ∧ ((fE xss n i f : Nat) : Int) = (fstE xss n i : Int) + (facL xss n i).getD f 0 ∧ 0 ≤ (facL xss n i).getD f 0 ∧ (facL xss n i).getD f 0 < (n : Int) := by
  have hm := List.mem_of_getElem? (facL_at (xss := xss) (i := i) hf)
  have h0 := facL_in hsys _ hm
  have h1 := grtL_gt (l := facL xss n i) n _ (by rw [List.take_of_length_le (by rw [facL_len]; omega)]; exact hm)
  rw [List.take_of_length_le (by rw [facL_len]; omega)] at h1
  have h2 := grt_fac (i := i) hsys
  obtain ⟨a, ha⟩ := Int.eq_ofNat_of_zero_le h0.1
  have h3 : a < cN xss n i := by unfold cN; omega
  unfold fE
  rw [ha]
  refine ⟨by omega, by simp only [fstE]; simp; omega, by simp, by omega, by omega⟩
theorem fE_lt (hsys : okSys n xss = true) (hf : f < n) (hi : i < N) : fE xss n i f < fstE xss n N := by
  have := (fE_bd (i := i) hsys hf).2.1
  have := fstE_mono (xss := xss) (n := n) (show i + 1 ≤ N by omega)
  omega
theorem fcRow_fE (hsys : okSys n xss = true) (hf : f < n) (hi : i < N) : (fcRow xss n N f)[i]? = some ((fE xss n i f : Nat) : Int) := by
  rw [(fE_bd hsys hf).2.2.1]
  simp [fcRow, hi]
theorem fr_zero : ¬ FR xss n 0 e d := fun ⟨f, k, _, h, _⟩ => by omega
theorem fr_rank (hsys : okSys n xss = true) (h : FR xss n i e d) : fstE xss n i ≤ e ∧ e < fstE xss n (i + 1) := by
  obtain ⟨f, k, h1, h2, rfl, _⟩ := h
  have := fE_bd (i := i) hsys h1
  omega
theorem fr_bel (hsys : okSys n xss = true) (hi : i < N) (h1 : fstE xss n i ≤ e) (h2 : e < fstE xss n (i + 1)) : BelE xss n N e (d : Int) ↔ FR xss n i e d := by
  constructor
  · rintro ⟨f, j, k, hf, hj, hk, he, hd⟩
    rw [fcRow_fE hsys hf hj] at he
    rw [fcRow_fE hsys hf (by omega)] at hd
    injection he with he
    injection hd with hd
    have he : fE xss n j f = e := by omega
    have hd : fE xss n k f = d := by omega
    have hb := fE_bd (i := j) hsys hf
    have : j = i := by
      rcases Nat.lt_trichotomy j i with h | h | h
      · have := fstE_mono (xss := xss) (n := n) (show j + 1 ≤ i by omega); omega
      · exact h
      · have := fstE_mono (xss := xss) (n := n) (show i + 1 ≤ j by omega); omega
    subst this
    exact ⟨f, k, hf, hk, he, hd⟩
  · rintro ⟨f, k, hf, hk, he, hd⟩
    exact ⟨f, i, k, hf, hi, hk, by rw [fcRow_fE hsys hf hi, he], by rw [fcRow_fE hsys hf (by omega), hd]⟩
theorem addL_nil (h : ∀ x, ¬ FR xss n i e x) : addL xss n i e d = [] := by
  unfold addL
  rw [List.filter_eq_nil_iff.2]
  · rfl
  · intro x _ hx
    exact h x (pB_iff.1 hx)
theorem addL_zero : addL xss n i e 0 = [] := by simp [addL]
theorem addL_yes (h : FR xss n i e d) : addL xss n i e (d + 1) = addL xss n i e d ++ [(d : Int)] := by
  unfold addL
  rw [List.range_succ, List.filter_append, List.map_append]
  simp [pB_true h]
theorem addL_no (h : ¬ FR xss n i e d) : addL xss n i e (d + 1) = addL xss n i e d := by
  unfold addL
  rw [List.range_succ, List.filter_append, List.map_append]
  have : pB (FR xss n i e d) = false := by
    cases hb : pB (FR xss n i e d) with
    | true => exact absurd (pB_iff.1 hb) h
    | false => rfl
  simp [this]
theorem addL_len : (addL xss n i e d).length ≤ d := by
  unfold addL
  rw [List.length_map]
  exact Nat.le_trans (List.length_filter_le _ _) (by simp)
theorem blTo_len : (blTo xss n S i e).length ≤ i * S := by
  induction i with
  | zero => simp [blTo]
  | succ i ih =>
    have := addL_len (xss := xss) (n := n) (i := i) (e := e) (d := S)
    simp only [blTo, List.length_append]
    rw [Nat.succ_mul]
    omega
theorem blTo_low (hsys : okSys n xss = true) (h : fstE xss n i ≤ e) : blTo xss n S i e = [] := by
  induction i with
  | zero => rfl
  | succ i ih =>
    have hm := fstE_mono (xss := xss) (n := n) (show i ≤ i + 1 by omega)
    rw [blTo, ih (by omega), addL_nil fun x hx => by have := fr_rank hsys hx; omega]
    rfl
theorem blTo_high (hsys : okSys n xss = true) (h2 : e < fstE xss n (i + 1)) (m : Nat) : blTo xss n S (i + 1 + m) e = blTo xss n S (i + 1) e := by
  induction m with
  | zero => rfl
  | succ m ih =>
    have hm := fstE_mono (xss := xss) (n := n) (show i + 1 ≤ i + 1 + m by omega)
    show blTo xss n S (i + 1 + m) e ++ addL xss n (i + 1 + m) e S = _
    rw [ih, addL_nil fun x hx => by have := fr_rank hsys hx; omega]
    simp
theorem blTo_one : blTo xss n S 1 e = [] := by
  show [] ++ addL xss n 0 e S = []
  rw [addL_nil fun x => fr_zero]
  rfl
theorem rank_of (h : e < fstE xss n N) : ∃ i, i < N ∧ fstE xss n i ≤ e ∧ e < fstE xss n (i + 1) := by
  induction N with
  | zero => simp [fstE] at h
  | succ N ih =>
    by_cases h1 : e < fstE xss n N
    · obtain ⟨i, h2, h3⟩ := ih h1
      exact ⟨i, by omega, h3⟩
    · exact ⟨N, by omega, by omega, h⟩
theorem blTo_all (hsys : okSys n xss = true) (hS : fstE xss n N = S) (he : e < S) : blTo xss n S N e = blwL xss n N e := by
  subst hS
  obtain ⟨i, hi, h1, h2⟩ := rank_of he
  obtain ⟨m, rfl⟩ : ∃ m, N = i + 1 + m := ⟨N - (i + 1), by omega⟩
  rw [blTo_high hsys h2, blTo, blTo_low hsys h1, List.nil_append, addL, blwL]
  congr 1
  refine List.filter_congr fun d hd => ?_
  exact Bool.eq_iff_iff.2 (pB_iff.trans ((fr_bel hsys hi h1 h2).symm.trans pB_iff.symm))
theorem rowsP_len : (rowsP xss n S i e d).length = S := by simp [rowsP]
theorem rowsP_at (he : e < S) : (rowsP xss n S i e d)[e]? = some (blTo xss n S i e ++ addL xss n i e d) := by
  simp [rowsP, he, rwP]
theorem rowsP_row {r : List Int} (h : r ∈ rowsP xss n S i e d) : r.length ≤ (i + 1) * S + d := by
  obtain ⟨x, _, rfl⟩ := List.mem_map.1 h
  have h0 := blTo_len (xss := xss) (n := n) (S := S) (i := i) (e := x)
  have h1 := blTo_len (xss := xss) (n := n) (S := S) (i := i + 1) (e := x)
  have h2 := addL_len (xss := xss) (n := n) (i := i) (e := x) (d := d)
  have h3 : (i + 1) * S = i * S + S := Nat.succ_mul _ _
  unfold rwP
  split
  · omega
  · split
    · rw [List.length_append]; omega
    · omega
theorem rowsP_start : rowsP xss n S i 0 0 = (List.range S).map (blTo xss n S i) := by
  unfold rowsP
  refine List.map_congr_left fun x _ => ?_
  unfold rwP
  rw [if_neg (by omega), addL_zero, List.append_nil]
  split <;> rfl
theorem rowsP_one : List.replicate S [] = rowsP xss n S 1 0 0 := by
  rw [rowsP_start]
  apply List.ext_getElem?
  intro k
  by_cases hk : k < S
  · simp [hk, blTo_one]
  · rw [List.getElem?_eq_none (by simp; omega), List.getElem?_eq_none (by simp; omega)]
theorem rowsP_next : rowsP xss n S i e S = rowsP xss n S i (e + 1) 0 := by
  unfold rowsP
  refine List.map_congr_left fun x _ => ?_
  unfold rwP
  rw [addL_zero, List.append_nil]
  by_cases h1 : x < e
  · rw [if_pos h1, if_pos (by omega)]
  · by_cases h2 : x = e
    · rw [if_neg h1, if_pos h2, if_pos (by omega), blTo]
    · rw [if_neg h1, if_neg h2, if_neg (by omega)]
      split <;> rfl
theorem rowsP_turn : rowsP xss n S i S 0 = rowsP xss n S (i + 1) 0 0 := by
  rw [rowsP_start]
  unfold rowsP
  refine List.map_congr_left fun x hx => ?_
  have := List.mem_range.1 hx
  unfold rwP
  rw [if_pos this]
theorem rowsP_no (h : ¬ FR xss n i e d) : rowsP xss n S i e (d + 1) = rowsP xss n S i e d := by
  unfold rowsP
  refine List.map_congr_left fun x _ => ?_
  unfold rwP
  by_cases h2 : x = e
  · subst h2
    rw [addL_no h]
  · rw [if_neg h2, if_neg h2]
theorem rowsP_yes (he : e < S) (h : FR xss n i e d) : (rowsP xss n S i e d).set e (blTo xss n S i e ++ addL xss n i e d ++ [(d : Int)]) = rowsP xss n S i e (d + 1) := by
  apply List.ext_getElem?
  intro k
  by_cases hk : k = e
  · subst hk
    rw [List.getElem?_set_self (by rw [rowsP_len]; exact he), rowsP_at he, addL_yes h, List.append_assoc]
  · rw [List.getElem?_set_ne (fun h => hk h.symm)]
    by_cases hkS : k < S
    · simp [rowsP, hkS, rwP, hk]
    · rw [List.getElem?_eq_none (by rw [rowsP_len]; omega), List.getElem?_eq_none (by rw [rowsP_len]; omega)]
theorem rowsP_all (hsys : okSys n xss = true) (hS : fstE xss n N = S) : rowsP xss n S N 0 0 = (List.range S).map (blwL xss n N) := by
  rw [rowsP_start]
  refine List.map_congr_left fun x hx => ?_
  exact blTo_all hsys hS (List.mem_range.1 hx)
theorem posL_zero : posL xss n S i 0 0 = [] := by simp [posL]
theorem posL_step : posL xss n S i f (t + 1) = posL xss n S i f t ++ [((posN xss n S i f t : Nat) : Int)] := by
  simp [posL, List.range_succ]
theorem posL_next : posL xss n S i f i = posL xss n S i (f + 1) 0 := by
  simp [posL, List.range_succ]
theorem pos_uniq {a b x y S : Nat} (hx : x < S) (hy : y < S) (h : a * S + x = b * S + y) : a = b ∧ x = y := by
  have h1 : (a * S + x) / S = a := by rw [Nat.mul_comm, Nat.mul_add_div (by omega), Nat.div_eq_of_lt hx, Nat.add_zero]
  have h2 : (b * S + y) / S = b := by rw [Nat.mul_comm, Nat.mul_add_div (by omega), Nat.div_eq_of_lt hy, Nat.add_zero]
  have : a = b := by rw [← h1, ← h2, h]
  subst this
  exact ⟨rfl, by omega⟩
theorem posL_mem (hsys : okSys n xss = true) (hS : fstE xss n N = S) (hi : i < N) (hd : d < S) : ((e * S + d : Nat) : Int) ∈ posL xss n S i n 0 ↔ FR xss n i e d := by
  unfold posL
  simp only [List.range_zero, List.map_nil, List.append_nil, List.mem_flatMap, List.mem_range, List.mem_map]
  constructor
  · rintro ⟨f, hf, k, hk, h⟩
    have h : posN xss n S i f k = e * S + d := by omega
    have hlt := fE_lt (N := N) hsys hf (show k < N by omega)
    rw [hS] at hlt
    obtain ⟨h1, h2⟩ := pos_uniq hlt hd h
    exact ⟨f, k, hf, hk, h1, h2⟩
  · rintro ⟨f, k, hf, hk, rfl, rfl⟩
    exact ⟨f, hf, k, hk, rfl⟩
theorem pos_lt (ha : e < S) (hd : d < S) : e * S + d < S * S := by
  have : (e + 1) * S ≤ S * S := Nat.mul_le_mul_right S ha
  rw [Nat.succ_mul] at this
  omega
theorem fsL_succ : fsL xss n (k + 1) = fsL xss n k ++ [(fstE xss n k : Int)] := by simp [fsL, List.range_succ]
theorem lbL_succ : lbL xss n (k + 1) = lbL xss n k ++ [facL xss n k] := by simp [lbL, List.range_succ]
theorem fsL_at (h : i < k) : (fsL xss n k)[i]? = some (fstE xss n i : Int) := by simp [fsL, h]
theorem lbL_at (h : i < k) : (lbL xss n k)[i]? = some (facL xss n i) := by simp [lbL, h]
end
end Go.Proofs.Ytmfddenjemoedaa
