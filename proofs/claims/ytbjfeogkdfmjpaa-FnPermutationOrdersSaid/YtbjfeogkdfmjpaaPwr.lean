/- Powers of a permutation: by doubling, and along its cycles; plain facts, no program. -/
import Derived.Test.YtbjfeogkdfmjpaaPow
import Derived.Test.YtbjfeogkdfmjpaaWkI
namespace Go.Proofs.Ytbjfeogkdfmjpaa
open Go.RowKit

def it (xs : List Int) : Nat → Int → Int
  | 0, x => x
  | m + 1, x => it xs m (fz xs x)
theorem it_add (xs : List Int) (b : Nat) : ∀ (a : Nat) (x : Int), it xs b (it xs a x) = it xs (a + b) x
  | 0, x => by simp [it]
  | a + 1, x => by
    rw [it, it_add xs b a, show a + 1 + b = (a + b) + 1 by omega, it]
theorem it_in {xs : List Int} {n : Nat} (hxn : xs.length = n) (hok : InR xs n) : ∀ (m : Nat) {x : Int}, 0 ≤ x → x < (n : Int) → 0 ≤ it xs m x ∧ it xs m x < (n : Int)
  | 0, _, h0, h1 => ⟨h0, h1⟩
  | m + 1, x, h0, h1 => by
    have hx : xs[x.toNat]? = some xs[x.toNat] := List.getElem?_eq_getElem (by omega)
    have e : fz xs x = xs[x.toNat] := by simp [fz, hx]
    have := hok _ (List.mem_of_getElem? hx)
    rw [it, e]
    exact it_in hxn hok m this.1 this.2
def powN (xs : List Int) (n m : Nat) : List Int := (List.range n).map fun (j : Nat) => it xs m (j : Int)
theorem powN_length (xs : List Int) (n m : Nat) : (powN xs n m).length = n := by simp [powN]
theorem powN_zero (xs : List Int) (n : Nat) : powN xs n 0 = (List.range n).map fun (j : Nat) => (j : Int) := rfl
theorem powN_one {xs : List Int} {n : Nat} (h : xs.length = n) : powN xs n 1 = xs := by
  apply List.ext_getElem (by simp [powN, h])
  intro i h1 h2
  simp [powN, it, fz, h2]
theorem powN_at {xs : List Int} {n m j : Nat} (hj : j < n) : (powN xs n m)[j]? = some (it xs m j) := by simp [powN, hj]
theorem inR_powN {xs : List Int} {n : Nat} (hxn : xs.length = n) (hok : InR xs n) (m : Nat) : InR (powN xs n m) n := by
  intro x hx
  obtain ⟨j, hj, rfl⟩ := List.mem_map.1 hx
  exact it_in hxn hok m (by omega) (by have := List.mem_range.1 hj; omega)
theorem then_powN {xs : List Int} {n : Nat} (hxn : xs.length = n) (hok : InR xs n) (a b : Nat) : thenL (powN xs n a) (powN xs n b) = powN xs n (a + b) := by
  apply List.ext_getElem (by simp [powN, thenL])
  intro i h1 h2
  have hi : i < n := by simpa [powN] using h2
  have hr := it_in hxn hok a (x := (i : Int)) (by omega) (by omega)
  have e := powN_at (xs := xs) (m := b) (n := n) (j := (it xs a i).toNat) (by omega)
  rw [show (((it xs a i).toNat : Nat) : Int) = it xs a i by omega, it_add] at e
  have e1 : (powN xs n a)[i]'(by simpa [powN] using hi) = it xs a i := by simp [powN]
  simp only [thenL, List.getElem_map]
  rw [e1, List.getD_eq_getElem?_getD, e]
  simp [powN]
/-- What the power leads a point to. -/
def pwBase (xs : List Int) (k : Int) : List Int := if k < 0 then invL xs else xs
def pwT (xs : List Int) (k : Int) (x : Int) : Int := it (pwBase xs k) k.natAbs x
def powL (xs : List Int) (k : Int) : List Int := powN (pwBase xs k) xs.length k.natAbs
theorem pwBase_len (xs : List Int) (k : Int) : (pwBase xs k).length = xs.length := by unfold pwBase; split <;> simp [invL_len]
theorem powL_length (xs : List Int) (k : Int) : (powL xs k).length = xs.length := powN_length _ _ _
theorem powL_at {xs : List Int} {k : Int} {j : Nat} (hj : j < xs.length) : (powL xs k)[j]? = some (pwT xs k j) := powN_at hj
theorem backTo_at {xs : List Int} {n : Nat} (hxn : xs.length = n) (hok : okP xs = true) : ∀ k, k ≤ n → ∀ (j m : Nat), j < k → xs[j]? = some (m : Int) → (backTo xs n k)[m]? = some (j : Int)
  | 0, _, j, m, h, _ => absurd h (by omega)
  | k + 1, hk, j, m, hj, hx => by
    have hxk : xs[k]? = some xs[k] := List.getElem?_eq_getElem (by omega)
    obtain ⟨q, hq, hlt⟩ := okP_at hok hxn hxk
    rw [hq] at hxk
    rw [← backTo_succ hxk]
    rcases Nat.lt_succ_iff_lt_or_eq.1 hj with h1 | rfl
    · have hne : q ≠ m := by
        rintro rfl
        have hnd := (of_decide_eq_true hok).2.2
        have := List.pairwise_iff_getElem.1 hnd j k (by omega) (by omega) h1
        apply this
        rw [hq]
        exact (List.getElem?_eq_some_iff.1 hx).2
      rw [List.getElem?_set_ne hne]
      exact backTo_at hxn hok k (by omega) j m h1 hx
    · rw [hxk] at hx
      injection hx with hx
      obtain rfl : q = m := by omega
      rw [List.getElem?_set_self (by rw [backTo_length]; exact hlt)]
theorem fz_inv {xs : List Int} {n : Nat} (hxn : xs.length = n) (hok : okP xs = true) {x : Int} (h0 : 0 ≤ x) (h1 : x < (n : Int)) : fz (invL xs) (fz xs x) = x := by
  obtain ⟨j, rfl⟩ := Int.eq_ofNat_of_zero_le h0
  have hx : xs[j]? = some xs[j] := List.getElem?_eq_getElem (by omega)
  obtain ⟨q, hq, hlt⟩ := okP_at hok hxn hx
  rw [fz_at hx, hq]
  rw [hq] at hx
  exact fz_at (by unfold invL; rw [hxn]; exact backTo_at hxn hok n (Nat.le_refl _) j q (by omega) hx)
theorem cyc_it {xs c : List Int} (h : CycOk xs c) : ∀ (m i : Nat) (x : Int), c[i]? = some x → c[(i + m) % c.length]? = some (it xs m x)
  | 0, i, x, hx => by
    have := (List.getElem?_eq_some_iff.1 hx).1
    rw [Nat.add_zero, Nat.mod_eq_of_lt this]
    exact hx
  | m + 1, i, x, hx => by
    have h1 := cyc_it h m _ _ (h i x hx)
    rw [it, ← h1]
    congr 1
    rw [Nat.mod_add_mod]
    congr 1
    omega
theorem cyc_back {xs c : List Int} {n : Nat} (hxn : xs.length = n) (hok : okP xs = true) (hr : ∀ x ∈ c, 0 ≤ x ∧ x < (n : Int)) (h : CycOk xs c) : ∀ (m i : Nat) (x y : Int), c[i]? = some x → c[(i + m) % c.length]? = some y → it (invL xs) m y = x
  | 0, i, x, y, hx, hy => by
    have := (List.getElem?_eq_some_iff.1 hx).1
    rw [Nat.add_zero, Nat.mod_eq_of_lt this, hx] at hy
    injection hy with hy
    exact hy.symm
  | m + 1, i, x, y, hx, hy => by
    have hpos : 0 < c.length := by have := (List.getElem?_eq_some_iff.1 hx).1; omega
    have hlt : (i + m) % c.length < c.length := Nat.mod_lt _ hpos
    obtain ⟨z, hz⟩ : ∃ z, c[(i + m) % c.length]? = some z := ⟨_, List.getElem?_eq_getElem hlt⟩
    have h1 := h _ _ hz
    rw [Nat.mod_add_mod, Nat.add_assoc, hy] at h1
    injection h1 with h1
    have hzr := hr z (List.mem_of_getElem? hz)
    rw [it, h1, fz_inv hxn hok hzr.1 hzr.2]
    exact cyc_back hxn hok hr h m i x z hx hz
/-- The point that stands shift places on in the cycle. -/
theorem cyc_pow {xs c : List Int} {n : Nat} (hxn : xs.length = n) (hok : okP xs = true) (hr : ∀ x ∈ c, 0 ≤ x ∧ x < (n : Int)) (h : CycOk xs c) {k : Int} {s i : Nat} {x : Int} (hs : (s : Int) = k % (c.length : Int)) (hx : c[i]? = some x) :
    c[(i + s) % c.length]? = some (pwT xs k x) := by
  have hi := (List.getElem?_eq_some_iff.1 hx).1
  have hpos : 0 < c.length := by omega
  unfold pwT pwBase
  by_cases hk : k < 0
  · rw [if_pos hk]
    obtain ⟨m, hm⟩ : ∃ m, k.natAbs = m := ⟨_, rfl⟩
    have e : k = -(m : Int) := by omega
    rw [hm]
    obtain ⟨y, hy⟩ : ∃ y, c[(i + s) % c.length]? = some y := ⟨_, List.getElem?_eq_getElem (Nat.mod_lt _ hpos)⟩
    rw [hy]
    congr 1
    have h1 : (((s + m) % c.length : Nat) : Int) = 0 := by
      have h2 : ((s : Int) + m) % (c.length : Int) = 0 := by rw [hs, e, Int.emod_add_emod, Int.add_left_neg, Int.zero_emod]
      exact_mod_cast h2
    have h2 : (s + m) % c.length = 0 := by exact_mod_cast h1
    have h3 : ((i + s) % c.length + m) % c.length = i := by
      rw [Nat.mod_add_mod, Nat.add_assoc, Nat.add_mod, h2, Nat.add_zero, Nat.mod_mod, Nat.mod_eq_of_lt hi]
    exact (cyc_back hxn hok hr h m _ y x hy (by rw [h3]; exact hx)).symm
  · rw [if_neg hk]
    obtain ⟨m, hm⟩ : ∃ m, k.natAbs = m := ⟨_, rfl⟩
    have e : k = (m : Int) := by omega
    rw [hm, ← cyc_it h m i x hx]
    have hs2 : s = m % c.length := by rw [e] at hs; exact_mod_cast hs
    rw [hs2, Nat.add_mod_mod]
/-- The list has, at each point passed, what the power leads it to. -/
def PwOk (xs : List Int) (k : Int) (D vis : List Int) : Prop := ∀ (p : Nat), (p : Int) ∈ vis → D[p]? = some (pwT xs k p)
theorem pwOk_nil (xs : List Int) (k : Int) (D : List Int) : PwOk xs k D [] := fun p h => by simp at h
theorem pwOk_step {xs D vis : List Int} {k : Int} {p : Nat} (h : PwOk xs k D vis) (hp : p < D.length) : PwOk xs k (D.set p (pwT xs k p)) (vis ++ [(p : Int)]) := by
  intro q hq
  by_cases e : p = q
  · subst e; rw [List.getElem?_set_self hp]
  · rw [List.getElem?_set_ne e]
    rcases List.mem_append.1 hq with h1 | h1
    · exact h q h1
    · simp at h1; omega
theorem pwOk_all {xs D : List Int} {k : Int} {n : Nat} (hxn : xs.length = n) (hok : okP xs = true) (hD : D.length = n) (h : PwOk xs k D (cycL xs).flatten) : D = powL xs k := by
  apply List.ext_getElem? 
  intro p
  by_cases hp : p < n
  · have hc := (cyc_all hxn hok n (Nat.le_refl _)).2.2 p hp
    have e : cycTo xs n n = cycL xs := by unfold cycL; rw [hxn]
    rw [e] at hc
    rw [h p hc, powL_at (by omega)]
  · rw [List.getElem?_eq_none (by omega), List.getElem?_eq_none (by rw [powL_length]; omega)]
def powR (xs : List Int) (k : Int) : List Int := if okP xs then (if k < -1000000000 ∨ 1000000000 < k then [] else powL xs k) else []
def powC (xs : List Int) (k : Int) : Int := if okP xs then (if k < -1000000000 ∨ 1000000000 < k then 2 else 0) else 1
theorem powR_len (xs : List Int) (k : Int) : (powR xs k).length ≤ xs.length := by
  unfold powR
  split
  · split
    · simp
    · rw [powL_length]; exact Nat.le_refl _
  · simp
/-- The shift as the program finds it. -/
theorem shift_of {k : Int} {l : Nat} (hl : 0 < l) : Int.tmod (Int.tmod k l + l) l = k % (l : Int) := by
  have h1 : 0 ≤ Int.tmod k l + l := by have := Int.lt_tmod_of_pos k (show (0 : Int) < l by omega); omega
  rw [Int.tmod_eq_emod_of_nonneg h1]
  rw [Int.add_emod_right]
  rw [Int.tmod_eq_emod]
  split
  · simp
  · simp
end Go.Proofs.Ytbjfeogkdfmjpaa
