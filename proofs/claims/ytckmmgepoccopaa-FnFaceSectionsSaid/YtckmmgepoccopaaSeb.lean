/- Sections: how long they are. -/
import Derived.Test.YtckmmgepoccopaaL13
namespace Go.Proofs.Ytckmmgepoccopaa
open Go.RowKit

theorem secAt_le {xss : List (List Int)} {f i k : Nat} (ho : okMan xss = true) (hf : f < flN xss) : (secAt xss f i k).length ≤ 1048576 ∧ ∀ xs ∈ secAt xss f i k, (xs.length : Int) ≤ 1048576 := by
  have hman := okMan_iff.1 ho
  have hN5 := hman.r5
  have hn4 := hman.f4
  have hpa := (orb_facts (okSys_cut hman.sys i (k + 1 - i)) hf).1
  have hl := passed_len hpa
  refine ⟨?_, fun xs hx => ?_⟩
  · rw [secAt, secL_len]
    simp
    omega
  · obtain ⟨m, _, rfl⟩ := List.mem_map.1 hx
    rw [secRow_len]
    omega
theorem flagB_lt {n : Nat} {f : Int} (h : flagB n f = true) : f.toNat < n := by
  obtain ⟨p, rfl, hp⟩ := flagB_true h
  simpa using hp
theorem nil_le : ([] : List (List Int)).length ≤ 1048576 ∧ ∀ xs ∈ ([] : List (List Int)), (xs.length : Int) ≤ 1048576 := ⟨by simp, fun xs h => by simp at h⟩
theorem scR_le (xss : List (List Int)) (f i k : Int) : (scR xss f i k).length ≤ 1048576 ∧ ∀ xs ∈ scR xss f i k, (xs.length : Int) ≤ 1048576 := by
  unfold scR
  split
  · rename_i h
    obtain ⟨ho, hf, _⟩ := scC_zero h
    exact secAt_le ho (flagB_lt hf)
  · exact nil_le
theorem faC_zero {xss : List (List Int)} {f : Int} (h : faC xss f = 0) : scC xss f 0 0 = 0 := by
  unfold faC at h
  split at h
  · assumption
  · exact h
theorem faR_le (xss : List (List Int)) (f : Int) : (faR xss f).length ≤ 1048576 ∧ ∀ xs ∈ faR xss f, (xs.length : Int) ≤ 1048576 := by
  unfold faR
  split
  · rename_i h
    obtain ⟨ho, hf, _⟩ := scC_zero (faC_zero h)
    exact secAt_le ho (flagB_lt hf)
  · exact nil_le
theorem vfR_le (xss : List (List Int)) (f : Int) : (vfR xss f).length ≤ 1048576 ∧ ∀ xs ∈ vfR xss f, (xs.length : Int) ≤ 1048576 := by
  unfold vfR
  split
  · rename_i h
    obtain ⟨ho, hf, _⟩ := scC_zero (faC_zero h)
    exact secAt_le ho (flagB_lt hf)
  · exact nil_le
theorem fcF_lt {xss : List (List Int)} {i y s : Int} (h : fcC xss i y s = 0) : (fcF xss i y s).toNat < flN xss := by
  obtain ⟨ho, _, h0, _⟩ := fcC_zero h
  have := (idxL_bd (facL xss (flN xss) i.toNat) y).2
  rw [facL_len] at this
  unfold fcF
  rw [if_pos h]
  omega
theorem fmR_le (xss : List (List Int)) (i y : Int) : (fmR xss i y).length ≤ 1048576 ∧ ∀ xs ∈ fmR xss i y, (xs.length : Int) ≤ 1048576 := by
  unfold fmR
  split
  · rename_i h
    exact secAt_le (fcC_zero h).1 (fcF_lt h)
  · exact nil_le
theorem cmR_le (xss : List (List Int)) (i y : Int) : (cmR xss i y).length ≤ 1048576 ∧ ∀ xs ∈ cmR xss i y, (xs.length : Int) ≤ 1048576 := by
  unfold cmR
  split
  · rename_i h
    exact secAt_le (fcC_zero h).1 (fcF_lt h)
  · exact nil_le
end Go.Proofs.Ytckmmgepoccopaa
