/- Renumbering of a move; the greatest number of a list; plain facts, no program. -/
import Derived.Test.YtjkddoiacifhpaaL4
import Derived.Test.YtjkddoiacifhpaaConjL
namespace Go.Proofs.Ytjkddoiacifhpaa
open Go.RowKit

/-- The move in which the first k flags have got their new numbers. -/
def renTo (m p : List Int) (n : Nat) : Nat → List Int
  | 0 => List.replicate n 0
  | k + 1 => (renTo m p n k).set (fz p k).toNat (fz p (fz m k))
theorem renTo_length (m p : List Int) (n : Nat) : ∀ k, (renTo m p n k).length = n
  | 0 => by simp [renTo]
  | k + 1 => by simp [renTo, renTo_length m p n k]
theorem renTo_succ {m p : List Int} {n k a b : Nat} {z : Int} (h1 : p[k]? = some (a : Int)) (h2 : m[k]? = some (b : Int)) (h3 : p[b]? = some z) : (renTo m p n k).set a z = renTo m p n (k + 1) := by
  rw [renTo, fz_at h1, fz_at h2, fz_at h3, Int.toNat_natCast]
theorem renTo_at {m p : List Int} {n : Nat} (hpn : p.length = n) (hp : okP p = true) : ∀ k, k ≤ n → ∀ j : Nat, j < k → (renTo m p n k)[(fz p j).toNat]? = some (fz p (fz m j))
  | 0, _, j, h => absurd h (by omega)
  | k + 1, hk, j, h => by
    have hj := fz_in hpn hp (x := (j : Int)) (by omega) (by omega)
    have hk' := fz_in hpn hp (x := (k : Int)) (by omega) (by omega)
    rw [renTo]
    by_cases e : j = k
    · subst e
      rw [List.getElem?_set_self (by rw [renTo_length]; omega)]
    · have hne : (fz p k).toNat ≠ (fz p j).toNat := by
        intro h1
        have := fz_inj hpn hp (x := (k : Int)) (y := (j : Int)) (by omega) (by omega) (by omega) (by omega) (by omega)
        omega
      rw [List.getElem?_set_ne hne]
      exact renTo_at hpn hp k (by omega) j (by omega)
theorem renTo_all {m p : List Int} {n : Nat} (hmn : m.length = n) (hpn : p.length = n) (hm : okP m = true) (hp : okP p = true) : renTo m p n n = conjL m p := by
  refine list_fz (renTo_length m p n n) (conj_len hpn) fun y h0 h1 => ?_
  have i0 := fz_in (xs := invL p) (by rw [invL_len, hpn]) (okP_inv hp) h0 h1
  have e := fz_inv2 hpn hp h0 h1
  obtain ⟨j, hj⟩ := Int.eq_ofNat_of_zero_le i0.1
  rw [hj] at e i0
  have h2 := renTo_at (m := m) hpn hp n (Nat.le_refl _) j (by omega)
  have h3 := fz_conj hmn hpn hm hp i0.1 i0.2
  rw [e] at h2 h3
  rw [h3]
  obtain ⟨q, rfl⟩ := Int.eq_ofNat_of_zero_le h0
  exact fz_at h2
def renM (xss : List (List Int)) (p : List Int) : List (List Int) := xss.map fun m => conjL m p
theorem renM_length (xss : List (List Int)) (p : List Int) : (renM xss p).length = xss.length := by simp [renM]
theorem renM_at {xss : List (List Int)} {p m : List Int} {k : Nat} (h : xss[k]? = some m) : (renM xss p)[k]? = some (conjL m p) := by simp [renM, h]
theorem renM_row {xss : List (List Int)} {p : List Int} {n : Nat} (hpn : p.length = n) : ∀ xs ∈ renM xss p, xs.length = n := by
  intro xs h
  obtain ⟨m, _, rfl⟩ := List.mem_map.1 h
  exact conj_len hpn

/-- One more than the greatest number of a list of numbers of at least 0, as both programs find it. -/
def grtL (l : List Int) : Int := l.foldl (fun a x => if a ≤ x then x + 1 else a) 0
theorem grtL_succ {l : List Int} {k : Nat} {x : Int} (h : l[k]? = some x) : grtL (l.take (k + 1)) = if grtL (l.take k) ≤ x then x + 1 else grtL (l.take k) := by
  rw [List.take_add_one, h]
  unfold grtL
  rw [List.foldl_append]
  rfl
theorem grtL_one {l : List Int} {x : Int} (h : l[0]? = some x) (h0 : 0 ≤ x) : grtL (l.take 1) = x + 1 := by
  have := grtL_succ h
  rw [this, List.take_zero]
  simp [grtL, h0]
theorem grtL_bd {l : List Int} {n : Nat} (h : ∀ x ∈ l, 0 ≤ x ∧ x < (n : Int)) : ∀ k, 0 ≤ grtL (l.take k) ∧ grtL (l.take k) ≤ (n : Int)
  | 0 => by simp [grtL]
  | k + 1 => by
    have ih := grtL_bd h k
    by_cases hk : k < l.length
    · have hx := h l[k] (List.getElem_mem hk)
      rw [grtL_succ (List.getElem?_eq_getElem hk)]
      split <;> omega
    · rw [List.take_of_length_le (by omega)]
      rwa [List.take_of_length_le (by omega)] at ih
theorem grtL_max {l : List Int} {k : Nat} {x v : Int} (hx : l[k]? = some x) (hv : grtL (l.take k) = v + 1) : grtL (l.take (k + 1)) = max v x + 1 := by
  rw [grtL_succ hx, hv]
  split <;> omega

def mxL (l : List Int) : Int := l.foldl max 0
theorem mxL_succ {l : List Int} {k : Nat} {x : Int} (h : l[k]? = some x) : mxL (l.take (k + 1)) = max (mxL (l.take k)) x := by
  rw [List.take_add_one, h]
  unfold mxL
  rw [List.foldl_append]
  rfl
theorem mxL_one {l : List Int} {x : Int} (h : l[0]? = some x) (h0 : 0 ≤ x) : mxL (l.take 1) = x := by
  have := mxL_succ h
  rw [this, List.take_zero]
  simp [mxL]
  omega
theorem grt_mx {l : List Int} (hall : ∀ x ∈ l, 0 ≤ x) : ∀ k, k + 1 ≤ l.length → grtL (l.take (k + 1)) = mxL (l.take (k + 1)) + 1
  | 0, h => by
    have hx := List.getElem?_eq_getElem (show 0 < l.length by omega)
    have h0 := hall _ (List.mem_of_getElem? hx)
    rw [grtL_one hx h0, mxL_one hx h0]
  | k + 1, h => by
    have ih := grt_mx hall k (by omega)
    have hx := List.getElem?_eq_getElem (show k + 1 < l.length by omega)
    rw [grtL_max hx ih, mxL_succ hx]
theorem mxL_bd {l : List Int} {n : Nat} (h : ∀ x ∈ l, 0 ≤ x ∧ x < (n : Int)) : ∀ k, 0 ≤ mxL (l.take k) ∧ (mxL (l.take k) < (n : Int) ∨ mxL (l.take k) = 0)
  | 0 => by simp [mxL]
  | k + 1 => by
    have ih := mxL_bd h k
    by_cases hk : k < l.length
    · have hx := h l[k] (List.getElem_mem hk)
      rw [mxL_succ (List.getElem?_eq_getElem hk)]
      omega
    · rw [List.take_of_length_le (by omega)]
      rwa [List.take_of_length_le (by omega)] at ih
/-- Without one of the generators. -/
theorem okSys_erase {n : Int} {xss : List (List Int)} (h : okSys n xss = true) (i : Nat) : okSys n (xss.eraseIdx i) = true := by
  have h1 := sys_parts h
  refine decide_eq_true ⟨h1.1, h1.2.1, ?_, fun xs hx => h1.2.2.2 xs (List.mem_of_mem_eraseIdx hx)⟩
  have : (xss.eraseIdx i).length ≤ xss.length := List.length_eraseIdx_le _ _
  omega
theorem labL_in {n : Nat} {xss : List (List Int)} (hsys : okSys n xss = true) : ∀ x ∈ labL xss n, 0 ≤ x ∧ x < (n : Int) := by
  intro x hx
  obtain ⟨p, hp, rfl⟩ := List.mem_map.1 hx
  have hp : p < n := by simpa using hp
  have hc := (orbsTo_facts hsys n (Nat.le_refl _)).2.2.2 p hp
  obtain ⟨o, ho, hpo⟩ := List.mem_flatten.1 hc
  have hlt : (orbsTo xss n n).findIdx (fun o => decide ((p : Int) ∈ o)) < (orbsTo xss n n).length := List.findIdx_lt_length_of_exists ⟨o, ho, by simpa using hpo⟩
  have := orbs_cnt hsys (Nat.le_refl n)
  omega
end Go.Proofs.Ytjkddoiacifhpaa
