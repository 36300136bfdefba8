/- What FnSections asks of sections. Plain facts. -/
import Derived.Test.YtmikoihpmhfafaaTrs
namespace Go.Proofs.Ytmikoihpmhfafaa
open Go.RowKit

section
variable {xss : List (List Int)} {n f i k : Nat}
theorem orb_hd {yss : List (List Int)} (hsys : okSys n yss = true) (hf : f < n) : (orbL yss n f)[0]? = some (f : Int) := by
  obtain ⟨j0, _, ho⟩ := oinv_orb hsys hf
  exact ho.hd
structure SecF (xss : List (List Int)) (f i k : Nat) (s : List (List Int)) : Prop where
  len : s.length = k - i + 1
  man : IsMan s
  inn : ∀ a b : Nat, a ≤ b → b ≤ k - i → secAt s 0 a b = secAt xss f (i + a) (i + b)
  frm : frmL s (flN s) 0 = s
  pol : ∀ (j : Nat) (x : Int), j < k - i → x ∈ polL ((s.drop j).take 2) (flN s) → x ∈ polL ((xss.drop (i + j)).take 2) (flN xss)
theorem cut_cut {yss : List (List Int)} (i c a b : Nat) (h : a + b ≤ c) : (((yss.drop i).take c).drop a).take b = (yss.drop (i + a)).take b := by
  rw [List.drop_take, List.drop_drop, List.take_take, Nat.min_eq_left (by omega)]
theorem sec_facts (h : IsMan xss) (hf : f < flN xss) (hik : i ≤ k) (hk : k < xss.length) : SecF xss f i k (secAt xss f i k) := by
  have hman := sec_man (q := k + 1 - i) (i := i) h hf (by omega) (by omega)
  have hsys := okSys_cut h.sys i (k + 1 - i)
  obtain ⟨l, hl⟩ : ∃ l, (orbL ((xss.drop i).take (k + 1 - i)) (flN xss) f).length = l := ⟨_, rfl⟩
  have hfl : flN (secAt xss f i k) = l := by rw [← hl]; exact secL_fl (by simp; omega)
  have h0 := orb_hd hsys hf
  have hl0 : 0 < l := by rw [← hl]; exact List.length_pos_of_mem (orb_facts hsys hf).2.1
  refine ⟨by unfold secAt; rw [secL_len]; simp; omega, hman, fun a b hab hb => ?_, ?_, fun j x hj hx => ?_⟩
  · have := secL_secL hsys hf hl hl0 a (b + 1 - a)
    unfold secAt at hfl ⊢
    rw [hfl, this, show fz (orbL ((xss.drop i).take (k + 1 - i)) (flN xss) f) ((0 : Nat) : Int) = (f : Int) from fz_at h0, Int.toNat_natCast, cut_cut _ _ _ _ (by omega), show i + b + 1 - (i + a) = b + 1 - a by omega]
  · have := frm_sec hsys hf hl h0
    rw [hfl]
    exact this
  · rw [hfl] at hx
    have := pol_sec hsys hf hl j hx
    rwa [cut_cut _ _ _ _ (by omega)] at this
theorem tyL_at {n M j : Nat} (h : j < M) : (tyL xss n M)[j]? = some (polL ((xss.drop j).take 2) n) := by simp [tyL, h]
theorem polL_le {yss : List (List Int)} : (polL yss n).length ≤ n := by
  unfold polL
  rw [sortL_length]
  exact ddTo_len _ _
theorem secAt_row (h : IsMan xss) (hf : f < flN xss) : ∀ xs ∈ secAt xss f i k, (xs.length : Int) ≤ 1048576 := by
  intro xs hx
  unfold secAt secL at hx
  obtain ⟨m, hm, rfl⟩ := List.mem_map.1 hx
  rw [secRow_len]
  have := passed_len (orb_facts (okSys_cut h.sys i (k + 1 - i)) hf).1
  have := h.f4
  omega
theorem scR_row (f i k : Int) : ∀ xs ∈ scR xss f i k, (xs.length : Int) ≤ 1048576 := by
  unfold scR
  split
  · rename_i h
    unfold scC at h
    split at h
    · rename_i ho
      split at h
      · rename_i h2
        obtain ⟨p, rfl, hp⟩ := flagB_true h2.1
        exact secAt_row (okMan_iff.1 ho) (by simpa using hp)
      · omega
    · omega
  · simp
theorem scC_zeroE {f i k : Int} (h : scC xss f i k = 0) : ∃ p a b : Nat, f = p ∧ i = a ∧ k = b ∧ p < flN xss ∧ a ≤ b ∧ b < xss.length ∧ IsMan xss ∧ scR xss f i k = secAt xss p a b := by
  have h' := h
  unfold scC at h
  split at h
  · rename_i ho
    split at h
    · rename_i h2
      obtain ⟨p, rfl, hp⟩ := flagB_true h2.1
      obtain ⟨a, rfl⟩ := Int.eq_ofNat_of_zero_le h2.2.1
      obtain ⟨b, rfl⟩ := Int.eq_ofNat_of_zero_le (show 0 ≤ k by omega)
      refine ⟨p, a, b, rfl, rfl, rfl, hp, by omega, by omega, okMan_iff.1 ho, ?_⟩
      unfold scR
      rw [if_pos h']
      simp
    · omega
  · omega
theorem scC_ok {p a b : Nat} (h : IsMan xss) (hp : p < flN xss) (hab : a ≤ b) (hb : b < xss.length) : scC xss (p : Int) (a : Int) (b : Int) = 0 ∧ scR xss (p : Int) (a : Int) (b : Int) = secAt xss p a b := by
  have h1 : scC xss (p : Int) (a : Int) (b : Int) = 0 := by
    have h2 : flagB (flN xss) (p : Int) = true := by simp [flagB]; omega
    unfold scC
    rw [if_pos (okMan_true h), if_pos ⟨h2, by omega, by omega, by omega⟩]
  refine ⟨h1, ?_⟩
  unfold scR
  rw [if_pos h1]
  simp
end
end Go.Proofs.Ytmikoihpmhfafaa
