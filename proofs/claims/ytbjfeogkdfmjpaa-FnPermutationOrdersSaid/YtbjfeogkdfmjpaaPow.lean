/- Cycles close, and the power of a permutation along its cycles; plain facts, no program. -/
import Derived.Test.YtbjfeogkdfmjpaaCyc
namespace Go.Proofs.Ytbjfeogkdfmjpaa

def fz (xs : List Int) (x : Int) : Int := xs.getD x.toNat 0
theorem fz_at {xs : List Int} {p : Nat} {x : Int} (h : xs[p]? = some x) : fz xs (p : Int) = x := by simp [fz, h]
theorem fz_in {xs : List Int} {n : Nat} (hxn : xs.length = n) (hok : okP xs = true) {x : Int} (h0 : 0 ≤ x) (h1 : x < (n : Int)) : 0 ≤ fz xs x ∧ fz xs x < (n : Int) := by
  obtain ⟨p, rfl⟩ := Int.eq_ofNat_of_zero_le h0
  have hx : xs[p]? = some xs[p] := List.getElem?_eq_getElem (by omega)
  obtain ⟨q, hq, hlt⟩ := okP_at hok hxn hx
  rw [fz_at hx, hq]
  omega
theorem fz_inj {xs : List Int} {n : Nat} (hxn : xs.length = n) (hok : okP xs = true) {x y : Int} (h0 : 0 ≤ x) (h1 : x < (n : Int)) (h2 : 0 ≤ y) (h3 : y < (n : Int)) (h : fz xs x = fz xs y) : x = y := by
  obtain ⟨p, rfl⟩ := Int.eq_ofNat_of_zero_le h0
  obtain ⟨q, rfl⟩ := Int.eq_ofNat_of_zero_le h2
  have hp : p < xs.length := by omega
  have hq : q < xs.length := by omega
  rw [fz_at (List.getElem?_eq_getElem hp), fz_at (List.getElem?_eq_getElem hq)] at h
  have hnd := (of_decide_eq_true hok).2.2
  have : p = q := by
    rcases Nat.lt_trichotomy p q with hl | he | hl
    · exact absurd h (List.pairwise_iff_getElem.1 hnd p q hp hq hl)
    · exact he
    · exact absurd h.symm (List.pairwise_iff_getElem.1 hnd q p hq hp hl)
  omega
/-- Each element leads to the next one, the last one to p. -/
def Chain (xs cur : List Int) (p : Int) : Prop := ∀ (i : Nat) (x : Int), cur[i]? = some x → (cur ++ [p])[i + 1]? = some (fz xs x)
theorem chain_nil (xs : List Int) (p : Int) : Chain xs [] p := fun i x h => by simp at h
theorem chain_snoc {xs cur : List Int} {p : Int} (h : Chain xs cur p) : Chain xs (cur ++ [p]) (fz xs p) := by
  intro i x hx
  by_cases hi : i < cur.length
  · rw [List.getElem?_append_left hi] at hx
    have := h i x hx
    rw [List.getElem?_append_left (by simp; omega)]
    exact this
  · have hl : i = cur.length := by have := (List.getElem?_eq_some_iff.1 hx).1; simp at this; omega
    subst hl
    simp at hx
    subst hx
    simp
theorem trail_end {xs vis : List Int} {n : Nat} (hxn : xs.length = n) (hok : okP xs = true) : ∀ (f : Nat) (cur : List Int) (p : Nat), p < n → Passed n (vis ++ cur) → f = n - (vis ++ cur).length → Chain xs cur p →
    ∃ (T : List Int) (q : Nat), trail xs vis f cur p = T ∧ q < n ∧ (q : Int) ∈ vis ++ T ∧ Chain xs T q ∧ Passed n (vis ++ T) ∧ ∃ R, T = cur ++ R
  | 0, cur, p, hp, hps, hf, hc => by
    refine ⟨cur, p, rfl, hp, ?_, hc, hps, [], by simp⟩
    by_cases h : (p : Int) ∈ vis ++ cur
    · exact h
    · have := passed_len (passed_snoc hps hp h)
      simp at this hf
      omega
  | f + 1, cur, p, hp, hps, hf, hc => by
    unfold trail
    by_cases h : (p : Int) ∈ vis ++ cur
    · rw [if_pos h]
      exact ⟨cur, p, rfl, hp, h, hc, hps, [], by simp⟩
    · rw [if_neg h]
      have hx : xs[p]? = some xs[p] := List.getElem?_eq_getElem (by omega)
      obtain ⟨q, hq, hlt⟩ := okP_at hok hxn hx
      have e : xs.getD (p : Int).toNat 0 = (q : Int) := by simp [List.getD, show p < xs.length by omega]; exact hq
      have e2 : fz xs (p : Int) = (q : Int) := by rw [fz_at hx, hq]
      have hps2 := passed_snoc hps hp h
      rw [List.append_assoc] at hps2
      have hl := passed_len hps2
      rw [e]
      obtain ⟨T, r, h1, h2, h3, h4, h5, R, h6⟩ := trail_end hxn hok f (cur ++ [(p : Int)]) q hlt hps2 (by simp at hl hf ⊢; omega) (by rw [← e2]; exact chain_snoc hc)
      exact ⟨T, r, h1, h2, h3, h4, h5, (p : Int) :: R, by rw [h6]; simp⟩
/-- A list that the permutation leads round. -/
def CycOk (xs c : List Int) : Prop := ∀ (i : Nat) (x : Int), c[i]? = some x → c[(i + 1) % c.length]? = some (fz xs x)
/-- Each element is what another one is led to. -/
def Back (xs vis : List Int) : Prop := ∀ x ∈ vis, ∃ y ∈ vis, fz xs y = x
theorem chain_closes {xs vis T : List Int} {n q : Nat} (hxn : xs.length = n) (hok : okP xs = true) (hb : Back xs vis) (hne : T ≠ []) (hin : (q : Int) ∈ vis ++ T) (hc : Chain xs T q) (hps : Passed n (vis ++ T)) : CycOk xs T ∧ Back xs (vis ++ T) := by
  have hpos : 0 < T.length := List.length_pos_iff.2 hne
  obtain ⟨z, hz⟩ : ∃ z, T[T.length - 1]? = some z := ⟨_, List.getElem?_eq_getElem (by omega)⟩
  have hzq : fz xs z = (q : Int) := by
    have h := hc _ _ hz
    rw [show T.length - 1 + 1 = T.length by omega] at h
    simpa using h.symm
  have hzT : z ∈ T := List.mem_of_getElem? hz
  have hnd := List.nodup_append.1 hps.2
  have rng : ∀ x ∈ vis ++ T, 0 ≤ x ∧ x < (n : Int) := hps.1
  have hzr := rng z (List.mem_append.2 (.inr hzT))
  have hq0 : T[0]? = some (q : Int) := by
    rcases List.mem_append.1 hin with h | h
    · obtain ⟨y, hy, hyq⟩ := hb _ h
      have hyr := rng y (List.mem_append.2 (.inl hy))
      have : y = z := fz_inj hxn hok hyr.1 hyr.2 hzr.1 hzr.2 (by rw [hyq, hzq])
      exact absurd this (hnd.2.2 y hy z hzT)
    · obtain ⟨j, hj, hjq⟩ := List.mem_iff_getElem.1 h
      have hjq' : T[j]? = some (q : Int) := by rw [List.getElem?_eq_getElem hj, hjq]
      cases j with
      | zero => exact hjq'
      | succ j =>
        obtain ⟨y, hy⟩ : ∃ y, T[j]? = some y := ⟨_, List.getElem?_eq_getElem (by omega)⟩
        have h1 := hc _ _ hy
        rw [List.getElem?_append_left (by omega), hjq'] at h1
        injection h1 with h1
        have hyr := rng y (List.mem_append.2 (.inr (List.mem_of_getElem? hy)))
        have e : y = z := fz_inj hxn hok hyr.1 hyr.2 hzr.1 hzr.2 (by rw [← h1, hzq])
        have hjl : j < T.length - 1 := by omega
        have e1 : T[j] = y := (List.getElem?_eq_some_iff.1 hy).2
        have e2 : T[T.length - 1] = z := (List.getElem?_eq_some_iff.1 hz).2
        exact absurd (by rw [e1, e2, e] : T[j] = T[T.length - 1]) (List.pairwise_iff_getElem.1 hnd.2.1 j (T.length - 1) (by omega) (by omega) hjl)
  have hcyc : CycOk xs T := by
    intro i x hx
    have hi := (List.getElem?_eq_some_iff.1 hx).1
    have h := hc i x hx
    by_cases hl : i + 1 < T.length
    · rw [Nat.mod_eq_of_lt hl]
      rwa [List.getElem?_append_left hl] at h
    · have e : i + 1 = T.length := by omega
      rw [e, Nat.mod_self, hq0]
      rw [e] at h
      simpa using h
  refine ⟨hcyc, fun x hx => ?_⟩
  rcases List.mem_append.1 hx with h | h
  · obtain ⟨y, hy, hyx⟩ := hb x h
    exact ⟨y, List.mem_append.2 (.inl hy), hyx⟩
  · obtain ⟨j, hj, hjx⟩ := List.mem_iff_getElem.1 h
    cases j with
    | zero =>
      refine ⟨z, List.mem_append.2 (.inr hzT), ?_⟩
      rw [hzq, ← hjx]
      have := (List.getElem?_eq_some_iff.1 hq0).2
      exact this.symm
    | succ j =>
      obtain ⟨y, hy⟩ : ∃ y, T[j]? = some y := ⟨_, List.getElem?_eq_getElem (by omega)⟩
      refine ⟨y, List.mem_append.2 (.inr (List.mem_of_getElem? hy)), ?_⟩
      have h1 := hcyc j y hy
      rw [Nat.mod_eq_of_lt hj, List.getElem?_eq_getElem hj, hjx] at h1
      injection h1 with h1
      exact h1.symm
theorem cyc_all {xs : List Int} {n : Nat} (hxn : xs.length = n) (hok : okP xs = true) : ∀ k, k ≤ n → (∀ c ∈ cycTo xs n k, CycOk xs c) ∧ Back xs (cycTo xs n k).flatten ∧ ∀ p : Nat, p < k → (p : Int) ∈ (cycTo xs n k).flatten
  | 0, _ => ⟨by simp [cycTo], by simp [cycTo, Back], fun p hp => absurd hp (by omega)⟩
  | k + 1, hk => by
    obtain ⟨ih1, ih2, ih3⟩ := cyc_all hxn hok k (by omega)
    by_cases h : (k : Int) ∈ (cycTo xs n k).flatten
    · rw [cycTo_in h]
      refine ⟨ih1, ih2, fun p hp => ?_⟩
      rcases Nat.lt_succ_iff_lt_or_eq.1 hp with h1 | rfl
      · exact ih3 p h1
      · exact h
    · have hps := cycTo_passed hxn hok k (by omega)
      obtain ⟨T, q, h1, h2, h3, h4, h5, R, h6⟩ := trail_end (vis := (cycTo xs n k).flatten) hxn hok (n - (cycTo xs n k).flatten.length) [] k (by omega) (by simpa using hps) (by simp) (chain_nil _ _)
      have hx : xs[k]? = some xs[k] := List.getElem?_eq_getElem (by omega)
      obtain ⟨q', hq', _⟩ := okP_at hok hxn hx
      have hto := trail_out (xs := xs) (vis := (cycTo xs n k).flatten) (cur := []) (n := n) (p := k) (q := q') (by simpa using hps) (by omega) (by simpa using h) (by rw [hx, hq'])
      simp only [List.append_nil, List.nil_append] at hto
      rw [h1] at hto
      obtain ⟨T2, q2, g1, g2, g3, g4, g5, R2, g6⟩ := trail_end (vis := (cycTo xs n k).flatten) hxn hok (n - ((cycTo xs n k).flatten ++ [(k : Int)]).length) [(k : Int)] q' (by have := okP_at hok hxn hx; obtain ⟨a, b, c⟩ := this; omega) (passed_snoc hps (by omega) h) rfl
        (by have := chain_snoc (chain_nil xs (k : Int)); rw [fz_at hx, hq'] at this; simpa using this)
      rw [g1] at hto
      have hkT : (k : Int) ∈ T := by rw [hto, g6]; simp
      have hne : T ≠ [] := fun e => by rw [e] at hkT; simp at hkT
      have hcl := chain_closes hxn hok ih2 hne h3 h4 h5
      rw [cycTo_out h, h1]
      refine ⟨fun c hc => ?_, ?_, fun p hp => ?_⟩
      · rcases List.mem_append.1 hc with h7 | h7
        · exact ih1 c h7
        · rw [List.mem_singleton.1 h7]; exact hcl.1
      · rw [List.flatten_append]; simpa using hcl.2
      · rw [List.flatten_append]
        rcases Nat.lt_succ_iff_lt_or_eq.1 hp with h7 | rfl
        · exact List.mem_append.2 (.inl (ih3 p h7))
        · exact List.mem_append.2 (.inr (by simpa using hkT))
end Go.Proofs.Ytbjfeogkdfmjpaa
