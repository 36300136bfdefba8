/- What FnFaceSections asks, as numbers. Plain facts. -/
import Derived.Test.YtckmmgepoccopaaFsf
import Derived.Test.YtckmmgepoccopaaSfa
namespace Go.Proofs.Ytckmmgepoccopaa
open Go.RowKit

theorem count_succ {l : List Int} {k : Nat} {x y : Int} (h : l[k]? = some x) : (l.take (k + 1)).count y = (l.take k).count y + if x = y then 1 else 0 := by
  rw [List.take_add_one, h, List.count_append]
  congr 1
  by_cases e : x = y <;> simp [e]
section
variable {us xss : List (List Int)} {n f N i : Nat} {y : Int}
theorem lab_orb (hsys : okSys n us = true) (hy : 0 ≤ idxL (labL us n) y) : ∃ f : Nat, idxL (labL us n) y = (f : Int) ∧ f < n ∧ (labL us n)[f]? = some y ∧ (labL us n).count y = (orbL us n f).length ∧ ∀ z : Nat, z < n → (labL us n)[z]? = some y → (z : Int) ∈ orbL us n f := by
  obtain ⟨f, hf⟩ := Int.eq_ofNat_of_zero_le hy
  have hm : y ∈ labL us n := by have := idxL_mem (labL us n) y; simpa [hy] using this
  have hg := idxL_get hm
  rw [hf, Int.toNat_natCast] at hg
  have hfn : f < n := by have := (List.getElem?_eq_some_iff.1 hg).1; rwa [labL_length] at this
  obtain ⟨j, rfl⟩ := Int.eq_ofNat_of_zero_le (labL_in hsys y hm).1
  obtain ⟨o, ho, hfo⟩ := (lab_iff hsys hfn).1 hg
  obtain ⟨p, hp, hoe⟩ := orbsTo_of n (List.mem_of_getElem? ho)
  subst hoe
  refine ⟨f, hf, hfn, hg, ?_, fun z hz hzl => ?_⟩
  · rw [lab_count hsys ho]
    exact (orb_mem hsys hp hfn hfo).symm
  · obtain ⟨o2, ho2, hzo⟩ := (lab_iff hsys hz).1 hzl
    rw [ho] at ho2
    injection ho2 with ho2
    subst ho2
    exact (orb_same hsys hp hfn hfo).2 _ hzo
structure FaceF (xss : List (List Int)) (n N i : Nat) (y : Int) (f cnt fs ft : Nat) : Prop where
  ix : idxL (facL xss n i) y = (f : Int)
  fn : f < n
  cn : (facL xss n i).count y = cnt
  cp : 0 < cnt
  c4 : cnt ≤ 400
  sf : flN (secAt xss f 0 (i - 1)) = fs
  sp : 0 < fs
  s4 : fs ≤ 400
  t4 : ft ≤ 400
  so : ∀ z : Nat, z < n → (facL xss n i)[z]? = some y → flN (secAt xss z 0 (i - 1)) = fs
  last : i + 1 = N → cnt = fs
  tf : i + 1 < N → flN (secAt xss f (i + 1) (N - 1)) = ft ∧ 0 < ft ∧ fs ∣ cnt ∧ ft ∣ cnt ∧ cnt ≤ fs * ft
theorem low_sec (f : Nat) (h0 : 0 < i) (hi : i < xss.length) : flN (secAt xss f 0 (i - 1)) = (orbL (xss.take i) (flN xss) f).length := by
  unfold secAt
  rw [List.drop_zero, show i - 1 + 1 - 0 = i by omega]
  exact secL_fl (by simp; omega)
theorem high_sec (f : Nat) (hi : i + 1 < xss.length) : flN (secAt xss f (i + 1) (xss.length - 1)) = (orbL (xss.drop (i + 1)) (flN xss) f).length := by
  unfold secAt
  rw [List.take_of_length_le (by simp; omega)]
  exact secL_fl (by simp; omega)
theorem face_law (h : IsMan xss) (hx : xss.length = N) (hi0 : 0 < i) (hi : i < N) (hy : 0 ≤ idxL (facL xss (flN xss) i) y) : ∃ f cnt fs ft : Nat, FaceF xss (flN xss) N i y f cnt fs ft := by
  have hsu := okSys_erase h.sys i
  obtain ⟨f, h1, h2, h3, h4, h5⟩ := lab_orb hsu hy
  obtain ⟨d1, d2, d3, d4⟩ := face_facts (i := i) h h2
  have hc := man_comm h i
  have h400 := h.f4
  have l1 := passed_len (orb_facts hsu h2).1
  have l2 := passed_len (orb_facts hc.slo h2).1
  have l3 := passed_len (orb_facts hc.shi h2).1
  have p1 := List.length_pos_of_mem (orb_facts hsu h2).2.1
  have p2 := List.length_pos_of_mem (orb_facts hc.slo h2).2.1
  have p3 := List.length_pos_of_mem (orb_facts hc.shi h2).2.1
  refine ⟨f, (orbL (xss.eraseIdx i) (flN xss) f).length, (orbL (xss.take i) (flN xss) f).length, (orbL (xss.drop (i + 1)) (flN xss) f).length, h1, h2, h4, p1, by omega, low_sec f hi0 (by omega), p2, by omega, by omega, fun z hz hzl => ?_, fun hl => ?_, fun hl => ?_⟩
  · rw [low_sec z hi0 (by omega)]
    exact d4 z (h5 z hz hzl)
  · rw [List.eraseIdx_eq_take_drop_succ, List.drop_of_length_le (by omega), List.append_nil]
  · have := high_sec (i := i) f (xss := xss) (by omega)
    rw [hx] at this
    exact ⟨this, p3, d1, d2, d3⟩
end
section
variable {xss : List (List Int)} {i y : Int}
theorem fcC_zeroE (h : fcC xss i y 0 = 0) : ∃ k : Nat, i = k ∧ 0 < k ∧ k < xss.length ∧ IsMan xss ∧ 0 ≤ idxL (facL xss (flN xss) k) y ∧ fmR xss i y = secAt xss (idxL (facL xss (flN xss) k) y).toNat 0 (k - 1) ∧
    cmC xss i y = (if k + 1 = xss.length then 5 else 0) ∧ (k + 1 ≠ xss.length → cmR xss i y = secAt xss (idxL (facL xss (flN xss) k) y).toNat (k + 1) (xss.length - 1)) := by
  have h' := h
  unfold fcC at h
  split at h
  · rename_i ho
    split at h
    · rename_i h2
      obtain ⟨k, rfl, hk⟩ := flagB_true h2
      rw [Int.toNat_natCast] at h
      split at h
      · omega
      · rename_i h3
        split at h
        · omega
        · rename_i h4
          have hc : cmC xss (k : Int) y = (if k + 1 = xss.length then 5 else 0) := by
            unfold cmC fcC
            rw [if_pos ho, if_pos h2, Int.toNat_natCast, if_neg h3]
            by_cases h5 : k + 1 = xss.length
            · rw [if_pos (by omega), if_pos h5]
            · rw [if_neg (by omega), if_neg h5]
          refine ⟨k, rfl, by omega, hk, okMan_iff.1 ho, by omega, ?_, hc, fun h5 => ?_⟩
          · unfold fmR fcF
            rw [if_pos h', if_pos h', Int.toNat_natCast]
          · have hc0 : cmC xss (k : Int) y = 0 := by rw [hc, if_neg h5]
            have hc1 : fcC xss (k : Int) y ((xss.length : Int) - 1) = 0 := hc0
            unfold cmR fcF
            rw [if_pos hc0, if_pos hc1, Int.toNat_natCast]
    · omega
  · omega
theorem rows_le2 (L : List (List Int)) (h : ∀ xs ∈ L, (xs.length : Int) ≤ 1048576) : ∀ xs ∈ L, (xs.length : Int) ≤ 1048576 := h
end
end Go.Proofs.Ytckmmgepoccopaa
