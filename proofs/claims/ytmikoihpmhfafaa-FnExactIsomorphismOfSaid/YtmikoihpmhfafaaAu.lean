/- The first isomorphism, and all automorphisms. Plain facts. -/
import Derived.Test.YtmikoihpmhfafaaHm
namespace Go.Proofs.Ytmikoihpmhfafaa
open Go.RowKit

/-- The first isomorphism among those that give the flag 0 a flag below k. -/
noncomputable def fstI (xss yss : List (List Int)) (n : Nat) : Nat → Option (List Int)
  | 0 => none
  | k + 1 => match fstI xss yss n k with
    | some L => some L
    | none => isoL xss yss n k
theorem fstI_none {xss yss : List (List Int)} {n k : Nat} (h : fstI xss yss n k = none) (h2 : isoL xss yss n k = none) : fstI xss yss n (k + 1) = none := by
  rw [fstI, h, h2]
theorem fstI_some {xss yss : List (List Int)} {n k : Nat} {L : List Int} (h : fstI xss yss n k = none) (h2 : isoL xss yss n k = some L) : ∀ {m : Nat}, k < m → fstI xss yss n m = some L := by
  intro m
  induction m with
  | zero => intro h; omega
  | succ m ih =>
    intro hm
    rcases Nat.lt_succ_iff_lt_or_eq.1 hm with h3 | rfl
    · rw [fstI, ih h3]
    · rw [fstI, h, h2]
theorem fstI_iff {xss yss : List (List Int)} {n : Nat} : ∀ {k : Nat} {L : List Int}, fstI xss yss n k = some L → ∃ q, q < k ∧ isoL xss yss n q = some L
  | 0, L, h => by cases h
  | k + 1, L, h => by
    rw [fstI] at h
    split at h
    · rename_i L' h1
      injection h with h
      subst h
      obtain ⟨q, hq, h2⟩ := fstI_iff h1
      exact ⟨q, by omega, h2⟩
    · exact ⟨k, by omega, h⟩
theorem fstI_no {xss yss : List (List Int)} {n : Nat} : ∀ {k : Nat}, fstI xss yss n k = none → ∀ q, q < k → isoL xss yss n q = none
  | 0, _, q, hq => by omega
  | k + 1, h, q, hq => by
    rw [fstI] at h
    split at h
    · cases h
    · rename_i h1
      rcases Nat.lt_succ_iff_lt_or_eq.1 hq with h3 | rfl
      · exact fstI_no h1 q h3
      · exact h
/-- The isomorphism from one maniplex to another one that gives the flag 0 the least flag. -/
noncomputable def firO (xss yss : List (List Int)) : Option (List Int) := if xss.length = yss.length ∧ flN xss = flN yss then fstI xss yss (flN xss) (flN xss) else none
/-- The automorphisms that give the flag 0 a flag below k. -/
noncomputable def autTo (xss : List (List Int)) (n : Nat) : Nat → List (List Int)
  | 0 => []
  | k + 1 => match isoL xss xss n k with
    | some L => autTo xss n k ++ [L]
    | none => autTo xss n k
noncomputable def autL (xss : List (List Int)) : List (List Int) := autTo xss (flN xss) (flN xss)
theorem autTo_some {xss : List (List Int)} {n k : Nat} {L : List Int} (h : isoL xss xss n k = some L) : autTo xss n (k + 1) = autTo xss n k ++ [L] := by rw [autTo, h]
theorem autTo_none {xss : List (List Int)} {n k : Nat} (h : isoL xss xss n k = none) : autTo xss n (k + 1) = autTo xss n k := by rw [autTo, h]
theorem autTo_mem {xss : List (List Int)} {n : Nat} : ∀ {k : Nat} {L : List Int}, L ∈ autTo xss n k → ∃ q, q < k ∧ isoL xss xss n q = some L
  | 0, L, h => by simp [autTo] at h
  | k + 1, L, h => by
    rw [autTo] at h
    split at h
    · rename_i L' h1
      rcases List.mem_append.1 h with h2 | h2
      · obtain ⟨q, hq, h3⟩ := autTo_mem h2
        exact ⟨q, by omega, h3⟩
      · simp at h2
        subst h2
        exact ⟨k, by omega, h1⟩
    · obtain ⟨q, hq, h3⟩ := autTo_mem h
      exact ⟨q, by omega, h3⟩
theorem autTo_in {xss : List (List Int)} {n : Nat} {L : List Int} : ∀ {k q : Nat}, q < k → isoL xss xss n q = some L → L ∈ autTo xss n k
  | 0, q, h, _ => by omega
  | k + 1, q, h, hq => by
    rcases Nat.lt_succ_iff_lt_or_eq.1 h with h3 | rfl
    · have := autTo_in h3 hq
      rw [autTo]
      split
      · exact List.mem_append.2 (.inl this)
      · exact this
    · rw [autTo_some hq]; simp
theorem autTo_len {xss : List (List Int)} {n : Nat} : ∀ k, (autTo xss n k).length ≤ k
  | 0 => by simp [autTo]
  | k + 1 => by
    have := autTo_len (xss := xss) (n := n) k
    rw [autTo]
    split
    · simp; omega
    · omega
theorem autL_len (xss : List (List Int)) : (autL xss).length ≤ flN xss := autTo_len _
theorem autTo_rows {xss : List (List Int)} {n k : Nat} : ∀ L ∈ autTo xss n k, L.length = n := fun L h => by
  obtain ⟨q, _, h1⟩ := autTo_mem h
  exact isoL_len h1
theorem autL_rows {xss : List (List Int)} : ∀ L ∈ autL xss, L.length = flN xss := autTo_rows

/-! What the functions answer. -/
noncomputable def ioR (xss yss : List (List Int)) : List Int := if okMan xss && okMan yss then (firO xss yss).getD [] else []
noncomputable def ioC (xss yss : List (List Int)) : Int := if okMan xss && okMan yss then (if (firO xss yss).isSome then 0 else 4) else 1
noncomputable def aiB (xss yss : List (List Int)) : Bool := okMan xss && okMan yss && (firO xss yss).isSome
noncomputable def aiC (xss yss : List (List Int)) : Int := if okMan xss && okMan yss then 0 else 1
noncomputable def atR (xss : List (List Int)) (f : Int) : List Int := if okMan xss then (if flagB (flN xss) f then (isoL xss xss (flN xss) f.toNat).getD [] else []) else []
noncomputable def atC (xss : List (List Int)) (f : Int) : Int := if okMan xss then (if flagB (flN xss) f then (if (isoL xss xss (flN xss) f.toNat).isSome then 0 else 4) else 2) else 1
noncomputable def auR (xss : List (List Int)) : List (List Int) := if okMan xss then autL xss else []
noncomputable def auC (xss : List (List Int)) : Int := if okMan xss then 0 else 1
theorem firO_len {xss yss : List (List Int)} {L : List Int} (h : firO xss yss = some L) : L.length = flN xss := by
  unfold firO at h
  split at h
  · obtain ⟨q, _, h1⟩ := fstI_iff h
    exact isoL_len h1
  · cases h
theorem okMan_f4 {xss : List (List Int)} (h : okMan xss = true) : flN xss ≤ 400 := (okMan_iff.1 h).f4
theorem ioR_le (xss yss : List (List Int)) : (ioR xss yss).length ≤ 1048576 := by
  unfold ioR
  split
  · rename_i h
    simp only [Bool.and_eq_true] at h
    have := okMan_f4 h.1
    cases ho : firO xss yss with
    | none => simp
    | some L =>
      have := firO_len ho
      simp; omega
  · simp
theorem atR_le (xss : List (List Int)) (f : Int) : (atR xss f).length ≤ 1048576 := by
  unfold atR
  split
  · rename_i h
    have := okMan_f4 h
    split
    · cases ho : isoL xss xss (flN xss) f.toNat with
      | none => simp
      | some L =>
        have := isoL_len ho
        simp; omega
    · simp
  · simp
theorem auR_le (xss : List (List Int)) : (auR xss).length ≤ 1048576 ∧ ∀ xs ∈ auR xss, (xs.length : Int) ≤ 1048576 := by
  unfold auR
  split
  · rename_i h
    have h4 := okMan_f4 h
    have := autL_len xss
    exact ⟨by omega, fun xs hx => by have := autL_rows xs hx; omega⟩
  · simp
end Go.Proofs.Ytmikoihpmhfafaa
