/- All coverings, fibres, deck moves; what the functions on coverings answer. Plain facts. -/
import Derived.Test.YtmgoaabeopnopaaCv
namespace Go.Proofs.Ytmgoaabeopnopaa
open Go.RowKit

section
variable {xss yss : List (List Int)} {n nk : Nat}
/-- The coverings that give the flag 0 a flag below k. -/
noncomputable def covTo (xss yss : List (List Int)) (n nk : Nat) : Nat → List (List Int)
  | 0 => []
  | k + 1 => match cvL xss yss n nk k with
    | some L => covTo xss yss n nk k ++ [L]
    | none => covTo xss yss n nk k
noncomputable def covL7 (xss yss : List (List Int)) : List (List Int) := if xss.length = yss.length then covTo xss yss (flN xss) (flN yss) (flN yss) else []
theorem covTo_some {k : Nat} {L : List Int} (h : cvL xss yss n nk k = some L) : covTo xss yss n nk (k + 1) = covTo xss yss n nk k ++ [L] := by rw [covTo, h]
theorem covTo_none {k : Nat} (h : cvL xss yss n nk k = none) : covTo xss yss n nk (k + 1) = covTo xss yss n nk k := by rw [covTo, h]
theorem covTo_len : ∀ k, (covTo xss yss n nk k).length ≤ k
  | 0 => by simp [covTo]
  | k + 1 => by
    have := covTo_len k
    rw [covTo]
    split
    · simp; omega
    · omega
theorem covTo_rows : ∀ k, ∀ L ∈ covTo xss yss n nk k, L.length = n
  | 0 => by simp [covTo]
  | k + 1 => by
    intro L h
    rw [covTo] at h
    split at h
    · rename_i L' h1
      rcases List.mem_append.1 h with h2 | h2
      · exact covTo_rows k L h2
      · simp at h2
        subst h2
        exact cvL_len h1
    · exact covTo_rows k L h
theorem covL7_len : (covL7 xss yss).length ≤ flN yss := by
  unfold covL7
  split
  · exact covTo_len _
  · simp
theorem covL7_rows : ∀ L ∈ covL7 xss yss, L.length = flN xss := by
  unfold covL7
  split
  · exact covTo_rows _
  · simp
/-- The flags below k that get a flag. -/
def fibTo (L : List Int) (f : Int) : Nat → List Int
  | 0 => []
  | k + 1 => if fz L k = f then fibTo L f k ++ [(k : Int)] else fibTo L f k
def fibL7 (L : List Int) (f : Int) : List Int := fibTo L f L.length
theorem fibTo_len {L : List Int} {f : Int} : ∀ k, (fibTo L f k).length ≤ k
  | 0 => by simp [fibTo]
  | k + 1 => by
    have := fibTo_len (L := L) (f := f) k
    rw [fibTo]
    split
    · simp; omega
    · omega
theorem fibTo_in {L : List Int} {f : Int} : ∀ k, ∀ x ∈ fibTo L f k, ∃ j : Nat, j < k ∧ x = (j : Int) ∧ fz L j = f
  | 0 => by simp [fibTo]
  | k + 1 => by
    intro x h
    rw [fibTo] at h
    split at h
    · rename_i h1
      rcases List.mem_append.1 h with h2 | h2
      · obtain ⟨j, hj, h3⟩ := fibTo_in k x h2
        exact ⟨j, by omega, h3⟩
      · simp at h2
        exact ⟨k, by omega, h2, h1⟩
    · obtain ⟨j, hj, h3⟩ := fibTo_in k x h
      exact ⟨j, by omega, h3⟩
theorem fibTo_mem {L : List Int} {f : Int} : ∀ k (j : Nat), j < k → fz L j = f → (j : Int) ∈ fibTo L f k
  | 0, j, hj, _ => by omega
  | k + 1, j, hj, he => by
    rw [fibTo]
    rcases Nat.lt_succ_iff_lt_or_eq.1 hj with h | rfl
    · have := fibTo_mem k j h he
      split
      · exact List.mem_append.2 (.inl this)
      · exact this
    · rw [if_pos he]; simp
theorem fibTo_nodup {L : List Int} {f : Int} : ∀ k, (fibTo L f k).Nodup
  | 0 => by simp [fibTo]
  | k + 1 => by
    have ih := fibTo_nodup (L := L) (f := f) k
    rw [fibTo]
    split
    · refine List.nodup_append.2 ⟨ih, by simp, fun a ha b hb => ?_⟩
      simp at hb
      obtain ⟨j, hj, h1, _⟩ := fibTo_in k a ha
      omega
    · exact ih
/-- The automorphisms that give the flag 0 one of the first k of a list. -/
noncomputable def dkTo (xss : List (List Int)) (n : Nat) (F : List Int) : Nat → List (List Int)
  | 0 => []
  | k + 1 => match isoL xss xss n (fz F k).toNat with
    | some L => dkTo xss n F k ++ [L]
    | none => dkTo xss n F k
noncomputable def dkL7 (xss : List (List Int)) (L : List Int) : List (List Int) := dkTo xss (flN xss) (fibL7 L (fz L 0)) (fibL7 L (fz L 0)).length
theorem dkTo_some {F : List Int} {k q : Nat} {L : List Int} (hq : fz F k = (q : Int)) (h : isoL xss xss n q = some L) : dkTo xss n F (k + 1) = dkTo xss n F k ++ [L] := by rw [dkTo, hq, Int.toNat_natCast, h]
theorem dkTo_none {F : List Int} {k q : Nat} (hq : fz F k = (q : Int)) (h : isoL xss xss n q = none) : dkTo xss n F (k + 1) = dkTo xss n F k := by rw [dkTo, hq, Int.toNat_natCast, h]
theorem dkTo_len {F : List Int} : ∀ k, (dkTo xss n F k).length ≤ k
  | 0 => by simp [dkTo]
  | k + 1 => by
    have := dkTo_len (F := F) k
    rw [dkTo]
    split
    · simp; omega
    · omega
theorem dkTo_rows {F : List Int} : ∀ k, ∀ L ∈ dkTo xss n F k, L.length = n
  | 0 => by simp [dkTo]
  | k + 1 => by
    intro L h
    rw [dkTo] at h
    split at h
    · rename_i L' h1
      rcases List.mem_append.1 h with h2 | h2
      · exact dkTo_rows k L h2
      · simp at h2
        subst h2
        exact isoL_len h1
    · exact dkTo_rows k L h
/-- A list is a covering from one maniplex to another one. -/
def IsCov7 (xss yss : List (List Int)) (L : List Int) : Prop := xss.length = yss.length ∧ Cvr (flN xss) (flN yss) xss yss L
noncomputable def cvB7 (xss yss : List (List Int)) (L : List Int) : Bool := @decide (IsCov7 xss yss L) (Classical.propDecidable _)
theorem cvB7_iff {L : List Int} : cvB7 xss yss L = true ↔ IsCov7 xss yss L := ⟨fun h => @of_decide_eq_true _ (Classical.propDecidable _) h, fun h => @decide_eq_true _ (Classical.propDecidable _) h⟩
theorem cvB7_false {L : List Int} (h : ¬ IsCov7 xss yss L) : cvB7 xss yss L = false := @decide_eq_false _ (Classical.propDecidable _) h
/-- All fibres of a covering have equally many flags. -/
theorem fib_le (hm : IsMan xss) {L : List Int} (hc : Cvr (flN xss) (flN yss) xss yss L) {i : Nat} {g h : List Int} (hg : xss[i]? = some g) (hh : yss[i]? = some h) (f : Int) : (fibL7 L f).length ≤ (fibL7 L (fz h f)).length := by
  have hs := hm.sys
  have hgm := List.mem_of_getElem? hg
  have hr : ∀ x : Nat, x < flN xss → ∃ y : Nat, y < flN xss ∧ fz g x = (y : Int) := fun x hx => by
    have h2 := sys_img hs hgm (x := (x : Int)) (by omega) (by omega)
    obtain ⟨m, hm⟩ := Int.eq_ofNat_of_zero_le h2.1
    exact ⟨m, by omega, hm⟩
  have hsub : ((fibL7 L f).map (fun x => fz g x)) ⊆ fibL7 L (fz h f) := by
    intro y hy
    obtain ⟨x, hx, rfl⟩ := List.mem_map.1 hy
    obtain ⟨j, hj, rfl, he⟩ := fibTo_in _ x hx
    rw [hc.len] at hj
    obtain ⟨m, hmn, hm⟩ := hr j hj
    have h1 := hc.mv i g h hg hh j hj
    rw [he] at h1
    show fz g j ∈ _
    rw [hm] at h1 ⊢
    exact fibTo_mem _ m (by rw [hc.len]; exact hmn) h1
  have hnd : ((fibL7 L f).map (fun x => fz g x)).Nodup := by
    refine List.pairwise_map.2 ((fibTo_nodup (L := L) (f := f) L.length).imp_of_mem ?_)
    intro a b ha hb hne he
    obtain ⟨j, hj, rfl, _⟩ := fibTo_in _ a ha
    obtain ⟨k, hk, rfl, _⟩ := fibTo_in _ b hb
    rw [hc.len] at hj hk
    exact hne (fz_inj (hm.row g hgm).1 (hm.row g hgm).2.1 (by omega) (by omega) (by omega) (by omega) he)
  have := List.Nodup.length_le_of_subset hnd hsub
  simpa using this
theorem fib_mono (hm : IsMan xss) (hm2 : IsMan yss) {L : List Int} (hc : IsCov7 xss yss L) {f y : Nat} (hf : f < flN yss) (hy : y < flN yss) : (fibL7 L f).length ≤ (fibL7 L y).length := by
  have hcl : Closed yss (((List.range (flN yss)).map fun k : Nat => (k : Int)).filter fun x => decide ((fibL7 L f).length ≤ (fibL7 L x).length)) := by
    intro h hh x hx
    obtain ⟨h1, h2⟩ := List.mem_filter.1 hx
    obtain ⟨k, hk, rfl⟩ := List.mem_map.1 h1
    have hk : k < flN yss := by simpa using hk
    have h3 := of_decide_eq_true h2
    obtain ⟨i, hi, hhi⟩ := List.mem_iff_getElem.1 hh
    have hgi : xss[i]? = some (xss[i]'(by rw [hc.1]; exact hi)) := List.getElem?_eq_getElem _
    have h4 := fib_le hm hc.2 hgi (by rw [List.getElem?_eq_getElem hi, hhi]) (k : Int)
    have h5 := sys_img hm2.sys hh (x := (k : Int)) (by omega) (by omega)
    obtain ⟨m, hm⟩ := Int.eq_ofNat_of_zero_le h5.1
    rw [hm] at h4 ⊢
    exact List.mem_filter.2 ⟨List.mem_map.2 ⟨m, by simp; omega, rfl⟩, decide_eq_true (by omega)⟩
  have h := orb_sub (n := flN yss) (q := f) hcl (List.mem_filter.2 ⟨List.mem_map.2 ⟨f, by simpa using hf, rfl⟩, decide_eq_true (Nat.le_refl _)⟩) (y : Int) (mem_all (hm2.all hf) (orb_passed hm2.sys hf) hy)
  exact of_decide_eq_true (List.mem_filter.1 h).2
theorem fib_eq (hm : IsMan xss) (hm2 : IsMan yss) {L : List Int} (hc : IsCov7 xss yss L) : (fibL7 L 0).length = (fibL7 L (fz L 0)).length := by
  have h0 : 0 < flN xss := by have := hm.f2; omega
  have h1 := hc.2.im 0 h0
  obtain ⟨q, hq⟩ := Int.eq_ofNat_of_zero_le h1.1
  have hq' : fz L 0 = (q : Int) := hq
  rw [hq']
  have hqn : q < flN yss := by omega
  have h2 : 0 < flN yss := by have := hm2.f2; omega
  exact Nat.le_antisymm (fib_mono hm hm2 hc (f := 0) h2 hqn) (fib_mono hm hm2 hc hqn (y := 0) h2)

/-! What the functions answer. -/
noncomputable def coR7 (xss yss : List (List Int)) : List Int := if okMan xss && okMan yss then (covL7 xss yss).headD [] else []
noncomputable def coC7 (xss yss : List (List Int)) : Int := if okMan xss && okMan yss then (if (covL7 xss yss).length = 0 then 4 else 0) else 1
noncomputable def ccN7 (xss yss : List (List Int)) : Int := if okMan xss && okMan yss then ((covL7 xss yss).length : Int) else 0
noncomputable def ccC7 (xss yss : List (List Int)) : Int := if okMan xss && okMan yss then 0 else 1
noncomputable def icB7 (xss yss : List (List Int)) (L : List Int) : Bool := okMan xss && okMan yss && cvB7 xss yss L
/-- The code of two maniplexes and a covering. -/
noncomputable def cvC7 (xss yss : List (List Int)) (L : List Int) : Int := if okMan xss && okMan yss then (if cvB7 xss yss L then 0 else 2) else 1
noncomputable def fiC7 (xss yss : List (List Int)) (L : List Int) (f : Int) : Int := if cvC7 xss yss L = 0 then (if flagB (flN yss) f then 0 else 2) else cvC7 xss yss L
noncomputable def fiR7 (xss yss : List (List Int)) (L : List Int) (f : Int) : List Int := if fiC7 xss yss L f = 0 then fibL7 L f else []
noncomputable def dkR7 (xss yss : List (List Int)) (L : List Int) : List (List Int) := if cvC7 xss yss L = 0 then dkL7 xss L else []
noncomputable def noB7 (xss yss : List (List Int)) (L : List Int) : Bool := decide (cvC7 xss yss L = 0) && ((dkL7 xss L).length == (fibL7 L (fz L 0)).length)
theorem cvC7_zero {L : List Int} (h : cvC7 xss yss L = 0) : IsMan xss ∧ IsMan yss ∧ IsCov7 xss yss L := by
  unfold cvC7 at h
  split at h
  · rename_i h1
    simp only [Bool.and_eq_true] at h1
    split at h
    · rename_i h2
      exact ⟨okMan_iff.1 h1.1, okMan_iff.1 h1.2, cvB7_iff.1 h2⟩
    · omega
  · omega
theorem coR7_le (xss yss : List (List Int)) : (coR7 xss yss).length ≤ 1048576 := by
  unfold coR7
  split
  · rename_i h
    simp only [Bool.and_eq_true] at h
    have := okMan_f4 h.1
    have hr := covL7_rows (xss := xss) (yss := yss)
    cases hc : covL7 xss yss with
    | nil => simp
    | cons a l =>
      have := hr a (by rw [hc]; simp)
      simp; omega
  · simp
theorem fiR7_le (xss yss : List (List Int)) (L : List Int) (f : Int) : (fiR7 xss yss L f).length ≤ 1048576 := by
  unfold fiR7
  split
  · rename_i h
    have h0 : cvC7 xss yss L = 0 := by
      unfold fiC7 at h
      split at h
      · assumption
      · exact absurd h (by assumption)
    obtain ⟨h1, h2, h3⟩ := cvC7_zero h0
    have := h1.f4
    have h4 := h3.2.len
    have := fibTo_len (L := L) (f := f) L.length
    unfold fibL7
    omega
  · simp
theorem dkR7_le (xss yss : List (List Int)) (L : List Int) : (dkR7 xss yss L).length ≤ 1048576 ∧ ∀ xs ∈ dkR7 xss yss L, (xs.length : Int) ≤ 1048576 := by
  unfold dkR7
  split
  · rename_i h
    obtain ⟨h1, h2, h3⟩ := cvC7_zero h
    have := h1.f4
    have h4 := h3.2.len
    have h5 := fibTo_len (L := L) (f := fz L 0) L.length
    have h6 := dkTo_len (xss := xss) (n := flN xss) (F := fibL7 L (fz L 0)) (fibL7 L (fz L 0)).length
    refine ⟨?_, fun xs hx => ?_⟩
    · have h7 : (fibL7 L (fz L 0)).length ≤ L.length := h5
      have h8 : (dkL7 xss L).length ≤ (fibL7 L (fz L 0)).length := h6
      omega
    · have := dkTo_rows _ xs hx
      omega
  · simp
end
end Go.Proofs.Ytmgoaabeopnopaa
