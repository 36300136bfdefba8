/- What the orders and powers of a permutation keep: plain facts, no program. -/
import Derived.Test.YtjkddoiacifhpaaL3
namespace Go.Proofs.Ytjkddoiacifhpaa
open Go.RowKit

theorem point_cycle {xs : List Int} {n : Nat} (hxn : xs.length = n) (hok : okP xs = true) {x : Int} (h0 : 0 ≤ x) (h1 : x < (n : Int)) :
    ∃ (k : Nat) (c : List Int) (i : Nat), (cycL xs)[k]? = some c ∧ c[i]? = some x ∧ i < c.length := by
  obtain ⟨p, rfl⟩ := Int.eq_ofNat_of_zero_le h0
  have hc := (cyc_all hxn hok n (Nat.le_refl _)).2.2 p (by omega)
  have e : cycTo xs n n = cycL xs := by unfold cycL; rw [hxn]
  rw [e] at hc
  obtain ⟨c, hcm, hp⟩ := List.mem_flatten.1 hc
  obtain ⟨k, hk, rfl⟩ := List.mem_iff_getElem.1 hcm
  obtain ⟨i, hi, hx⟩ := List.mem_iff_getElem.1 hp
  exact ⟨k, _, i, List.getElem?_eq_getElem hk, by rw [List.getElem?_eq_getElem hi, hx], hi⟩
theorem pw_at {xs c : List Int} {n k i : Nat} {x : Int} (hxn : xs.length = n) (hok : okP xs = true) (hc : (cycL xs)[k]? = some c) (hx : c[i]? = some x) (a : Int) : c[(i + (a % (c.length : Int)).toNat) % c.length]? = some (pwT xs a x) := by
  obtain ⟨h1, h2, h3, _⟩ := cyc_facts hxn hok hc
  have hn := Int.emod_nonneg a (show (c.length : Int) ≠ 0 by omega)
  exact cyc_pow hxn hok h2 h1 (by omega) hx
theorem shift_add (a b : Int) (i l : Nat) (hl : 0 < l) : ((i + (a % (l : Int)).toNat) % l + (b % (l : Int)).toNat) % l = (i + ((a + b) % (l : Int)).toNat) % l := by
  have ha := Int.emod_nonneg a (show (l : Int) ≠ 0 by omega)
  have hb := Int.emod_nonneg b (show (l : Int) ≠ 0 by omega)
  have hab := Int.emod_nonneg (a + b) (show (l : Int) ≠ 0 by omega)
  obtain ⟨p, hp⟩ := Int.eq_ofNat_of_zero_le ha
  obtain ⟨q, hq⟩ := Int.eq_ofNat_of_zero_le hb
  obtain ⟨r, hr⟩ := Int.eq_ofNat_of_zero_le hab
  have e : r = (p + q) % l := by
    have h : ((r : Nat) : Int) = (((p + q) % l : Nat) : Int) := by rw [← hr, Int.add_emod, hp, hq]; rfl
    exact_mod_cast h
  rw [hp, hq, hr, e]
  simp only [Int.toNat_natCast]
  rw [Nat.mod_add_mod, Nat.add_mod_mod, Nat.add_assoc]
theorem pw_add {xs : List Int} {n : Nat} (hxn : xs.length = n) (hok : okP xs = true) {x : Int} (h0 : 0 ≤ x) (h1 : x < (n : Int)) (a b : Int) : pwT xs b (pwT xs a x) = pwT xs (a + b) x := by
  obtain ⟨k, c, i, hc, hx, hi⟩ := point_cycle hxn hok h0 h1
  have e1 := pw_at hxn hok hc (pw_at hxn hok hc hx a) b
  have e2 := pw_at hxn hok hc hx (a + b)
  rw [shift_add a b i c.length (by omega), e2] at e1
  injection e1 with e1
  exact e1.symm
theorem pw_in {xs : List Int} {n : Nat} (hxn : xs.length = n) (hok : okP xs = true) {x : Int} (h0 : 0 ≤ x) (h1 : x < (n : Int)) (a : Int) : 0 ≤ pwT xs a x ∧ pwT xs a x < (n : Int) := by
  obtain ⟨k, c, i, hc, hx, hi⟩ := point_cycle hxn hok h0 h1
  exact (cyc_facts hxn hok hc).2.1 _ (List.mem_of_getElem? (pw_at hxn hok hc hx a))
theorem powL_add {xs : List Int} {n : Nat} (hxn : xs.length = n) (hok : okP xs = true) (a b : Int) : thenL (powL xs a) (powL xs b) = powL xs (a + b) := by
  apply List.ext_getElem?
  intro j
  by_cases hj : j < n
  · have h1 := powL_at (xs := xs) (k := a) (j := j) (by omega)
    have h2 := pw_in hxn hok (x := (j : Int)) (by omega) (by omega) a
    obtain ⟨m, hm⟩ := Int.eq_ofNat_of_zero_le h2.1
    have h3 := powL_at (xs := xs) (k := b) (j := m) (by omega)
    rw [hm] at h1
    rw [thenL_at h1 h3, powL_at (by omega), ← hm, pw_add hxn hok (by omega) (by omega)]
  · rw [List.getElem?_eq_none (by rw [thenL_length, powL_length]; omega), List.getElem?_eq_none (by rw [powL_length]; omega)]
theorem then_inv {xs : List Int} {n : Nat} (hxn : xs.length = n) (hok : okP xs = true) : thenL xs (invL xs) = unitL n := by
  apply List.ext_getElem?
  intro j
  by_cases hj : j < n
  · have hx : xs[j]? = some xs[j] := List.getElem?_eq_getElem (by omega)
    obtain ⟨q, hq, hlt⟩ := okP_at hok hxn hx
    rw [hq] at hx
    have h1 := backTo_at hxn hok n (Nat.le_refl _) j q hj hx
    have e : invL xs = backTo xs n n := by unfold invL; rw [hxn]
    rw [thenL_at hx (by rw [e]; exact h1)]
    simp [unitL, hj]
  · rw [List.getElem?_eq_none (by rw [thenL_length]; omega), List.getElem?_eq_none (by simp [unitL]; omega)]
theorem flat_len {xs : List Int} {n : Nat} (hxn : xs.length = n) (hok : okP xs = true) : (cycL xs).flatten.length = n := by
  have e : cycTo xs n n = cycL xs := by unfold cycL; rw [hxn]
  have hp := cycTo_passed hxn hok n (Nat.le_refl _)
  rw [e] at hp
  have h1 := passed_len hp
  have hs : (List.range n).map (fun (j : Nat) => (j : Int)) ⊆ (cycL xs).flatten := by
    intro x hx
    obtain ⟨j, hj, rfl⟩ := List.mem_map.1 hx
    have := (cyc_all hxn hok n (Nat.le_refl _)).2.2 j (List.mem_range.1 hj)
    rwa [e] at this
  have hnd : ((List.range n).map (fun (j : Nat) => (j : Int))).Nodup := by
    refine List.pairwise_map.2 (List.Pairwise.imp ?_ List.nodup_range)
    intro a b h h2
    exact h (by omega)
  have h2 := List.Nodup.length_le_of_subset hnd hs
  rw [List.length_map, List.length_range] at h2
  omega
theorem perm_sum {l l' : List Int} (h : l.Perm l') : l.sum = l'.sum := by
  induction h with
  | nil => rfl
  | cons x _ ih => simp [ih]
  | swap x y l => simp only [List.sum_cons]; omega
  | trans _ _ h1 h2 => exact h1.trans h2
theorem sum_len (cs : List (List Int)) : (cs.map fun c => (c.length : Int)).sum = (cs.flatten.length : Int) := by
  induction cs with
  | nil => rfl
  | cons c cs ih => simp [ih]
theorem lens_sum {xs : List Int} {n : Nat} (hxn : xs.length = n) (hok : okP xs = true) : (lensL xs).sum = (n : Int) := by
  have h1 : (lensL xs).sum = (lenL xs).sum := perm_sum (sortL_perm (lenL xs))
  rw [h1, lenL, sum_len, flat_len hxn hok]
theorem ordF_all : ∀ (l : List Int) (o : Nat), ordF l o ≤ 1000000000000000 → o ∣ ordF l o ∧ (∀ x ∈ l, x.toNat ∣ ordF l o) ∧ ∀ m, o ∣ m → (∀ x ∈ l, x.toNat ∣ m) → ordF l o ∣ m
  | [], o, _ => ⟨Nat.dvd_refl _, by simp, fun m h _ => h⟩
  | x :: r, o, h => by
    have e : o / Nat.gcd o x.toNat * x.toNat = Nat.lcm o x.toNat := by
      unfold Nat.lcm
      rw [Nat.div_mul_right_comm (Nat.gcd_dvd_left o x.toNat)]
    unfold ordF at h ⊢
    rw [e] at h ⊢
    by_cases hb : 1000000000000000 < Nat.lcm o x.toNat
    · rw [if_pos hb] at h
      omega
    · rw [if_neg hb] at h ⊢
      obtain ⟨h1, h2, h3⟩ := ordF_all r (Nat.lcm o x.toNat) h
      refine ⟨Nat.dvd_trans (Nat.dvd_lcm_left _ _) h1, fun y hy => ?_, fun m hm hall => ?_⟩
      · rcases List.mem_cons.1 hy with rfl | hy
        · exact Nat.dvd_trans (Nat.dvd_lcm_right _ _) h1
        · exact h2 y hy
      · exact h3 m (Nat.lcm_dvd hm (hall x (by simp))) fun y hy => hall y (List.mem_cons.2 (.inr hy))
theorem len_mem {xs c : List Int} {k : Nat} (h : (cycL xs)[k]? = some c) : (c.length : Int) ∈ lensL xs :=
  (sortL_perm _).mem_iff.2 (List.mem_map.2 ⟨c, List.mem_of_getElem? h, rfl⟩)
/-- The power by a common multiple of the lengths of the cycles leaves each point. -/
theorem pow_unit {xs : List Int} {n m : Nat} (hxn : xs.length = n) (hok : okP xs = true) (h : ∀ x ∈ lensL xs, x.toNat ∣ m) : powL xs (m : Int) = unitL n := by
  apply List.ext_getElem?
  intro j
  by_cases hj : j < n
  · obtain ⟨k, c, i, hc, hx, hi⟩ := point_cycle hxn hok (x := (j : Int)) (by omega) (by omega)
    have h1 := pw_at hxn hok hc hx (m : Int)
    have hd := h _ (len_mem hc)
    simp only [Int.toNat_natCast] at hd
    have e : ((m : Int) % (c.length : Int)) = 0 := by
      have := Nat.mod_eq_zero_of_dvd hd
      exact_mod_cast this
    rw [e] at h1
    simp only [Int.toNat_zero, Nat.add_zero] at h1
    rw [Nat.mod_eq_of_lt hi, hx] at h1
    rw [powL_at (by omega), ← h1]
    simp [unitL, hj]
  · rw [List.getElem?_eq_none (by rw [powL_length]; omega), List.getElem?_eq_none (by simp [unitL]; omega)]
theorem cyc_nodup {xs c : List Int} {n k : Nat} (hxn : xs.length = n) (hok : okP xs = true) (hc : (cycL xs)[k]? = some c) : c.Nodup := by
  have e : cycTo xs n n = cycL xs := by unfold cycL; rw [hxn]
  have hp := (cycTo_passed hxn hok n (Nat.le_refl _)).2
  rw [e] at hp
  exact (List.pairwise_flatten.1 hp).1 c (List.mem_of_getElem? hc)
/-- Where a power leaves each point, each length divides the exponent. -/
theorem pow_div {xs : List Int} {n m : Nat} (hxn : xs.length = n) (hok : okP xs = true) (h : powL xs (m : Int) = unitL n) : ∀ x ∈ lensL xs, x.toNat ∣ m := by
  intro x hx
  obtain ⟨c, hcm, rfl⟩ := List.mem_map.1 ((sortL_perm _).mem_iff.1 hx)
  obtain ⟨k, hk, rfl⟩ := List.mem_iff_getElem.1 hcm
  have hc : (cycL xs)[k]? = some (cycL xs)[k] := List.getElem?_eq_getElem hk
  obtain ⟨c, hce⟩ : ∃ c, (cycL xs)[k] = c := ⟨_, rfl⟩
  rw [hce] at hc ⊢
  obtain ⟨h1, h2, h3, h4⟩ := cyc_facts hxn hok hc
  have hx0 : c[0]? = some c[0] := List.getElem?_eq_getElem (by omega)
  have hr := h2 _ (List.mem_of_getElem? hx0)
  obtain ⟨p, hp⟩ := Int.eq_ofNat_of_zero_le hr.1
  rw [hp] at hx0 hr
  have e1 := pw_at hxn hok hc hx0 (m : Int)
  have e2 := powL_at (xs := xs) (k := (m : Int)) (j := p) (by omega)
  rw [h] at e2
  have e3 : (unitL n)[p]? = some (p : Int) := by simp [unitL, show p < n by omega]
  rw [e3] at e2
  injection e2 with e2
  rw [← e2] at e1
  obtain ⟨s, hs⟩ := Int.eq_ofNat_of_zero_le (Int.emod_nonneg (m : Int) (show (c.length : Int) ≠ 0 by omega))
  have hsl : s < c.length := by have := Int.emod_lt_of_pos (m : Int) (show 0 < (c.length : Int) by omega); omega
  rw [hs] at e1
  simp only [Int.toNat_natCast, Nat.zero_add] at e1
  rw [Nat.mod_eq_of_lt hsl] at e1
  have hnd := cyc_nodup hxn hok hc
  have hs0 : s = 0 := by
    rcases Nat.eq_zero_or_pos s with h0 | h0
    · exact h0
    · exact absurd ((List.getElem?_eq_some_iff.1 hx0).2.trans (List.getElem?_eq_some_iff.1 e1).2.symm) (List.pairwise_iff_getElem.1 hnd 0 s (by omega) hsl h0)
  simp only [Int.toNat_natCast]
  apply Nat.dvd_of_mod_eq_zero
  rw [hs0] at hs
  exact_mod_cast hs
theorem lensL_pos {xs : List Int} (hok : okP xs = true) {x : Int} (h : x ∈ lensL xs) : 1 ≤ x.toNat := by
  obtain ⟨k, hk, rfl⟩ := List.mem_iff_getElem.1 h
  obtain ⟨l, hl, h1, _⟩ := lens_bounds hok (List.getElem?_eq_getElem hk)
  omega
theorem ordF_pos : ∀ (l : List Int) (o : Nat), 1 ≤ o → (∀ x ∈ l, 1 ≤ x.toNat) → 1 ≤ ordF l o
  | [], o, h, _ => h
  | x :: r, o, h, hl => by
    unfold ordF
    split
    · omega
    · refine ordF_pos r _ ?_ fun y hy => hl y (List.mem_cons.2 (.inr hy))
      have hx := hl x (by simp)
      have hg := Nat.gcd_pos_of_pos_left x.toNat h
      exact Nat.mul_pos (Nat.div_pos (Nat.gcd_le_left _ h) hg) hx
/-- The order's power leaves each point. -/
theorem ord_unit {xs : List Int} {n : Nat} (hxn : xs.length = n) (hok : okP xs = true) (h : ordO xs ≤ 1000000000000000) : powL xs (ordO xs : Int) = unitL n :=
  pow_unit hxn hok (ordF_all _ _ h).2.1
/-- No part of the order does. -/
theorem ord_part {xs : List Int} {n q : Nat} (hxn : xs.length = n) (hok : okP xs = true) (h : ordO xs ≤ 1000000000000000) (hq : 2 ≤ q) (hd : q ∣ ordO xs) : powL xs ((ordO xs / q : Nat) : Int) ≠ unitL n := by
  intro he
  have h1 := pow_div hxn hok he
  have hpos : 1 ≤ ordO xs := ordF_pos _ _ (Nat.le_refl _) fun x hx => lensL_pos hok hx
  have h2 := (ordF_all _ _ h).2.2 (ordO xs / q) (Nat.one_dvd _) h1
  obtain ⟨t, ht⟩ := hd
  have e : ordO xs / q = t := by rw [ht]; exact Nat.mul_div_cancel_left t (by omega)
  rw [e] at h2
  have ht0 : 0 < t := by rcases Nat.eq_zero_or_pos t with h0 | h0; · rw [h0] at ht; omega
                         · exact h0
  have h3 : ordO xs ≤ t := Nat.le_of_dvd ht0 h2
  have h4 : 2 * t ≤ q * t := Nat.mul_le_mul_right t hq
  omega
end Go.Proofs.Ytjkddoiacifhpaa
