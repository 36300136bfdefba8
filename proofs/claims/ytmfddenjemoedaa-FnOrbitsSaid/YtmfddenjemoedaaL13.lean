import Derived.Test.YtmfddenjemoedaaL9
import Derived.Test.YtmfddenjemoedaaL12
import Derived.Test.YtmfddenjemoedaaL8
/- Sections: facts outside the walks. -/
namespace Go.Proofs.Ytmfddenjemoedaa
open Go.RowKit

theorem okSys_cut {n : Int} {xss : List (List Int)} (h : okSys n xss = true) (i k : Nat) : okSys n ((xss.drop i).take k) = true := by
  have h1 := sys_parts h
  refine decide_eq_true ⟨h1.1, h1.2.1, ?_, fun xs hx => h1.2.2.2 xs (List.mem_of_mem_drop (List.mem_of_mem_take hx))⟩
  have : ((xss.drop i).take k).length ≤ xss.length := by simp; omega
  omega
/-- The numbers that flags get: those of the first k of a list. -/
def numTo (ord : List Int) (n k : Nat) : List Int := (List.range n).map fun (x : Nat) => if (x : Int) ∈ ord.take k then idxL ord (x : Int) else 0
def secRow (ord m : List Int) : List Int := ord.map fun x => idxL ord (fz m x)
def secL (yss : List (List Int)) (n f : Nat) : List (List Int) := yss.map (secRow (orbL yss n f))
section
variable {yss : List (List Int)} {ord m : List Int} {n k f : Nat}
theorem orb_facts (hsys : okSys n yss = true) (hf : f < n) : Passed n (orbL yss n f) ∧ (f : Int) ∈ orbL yss n f ∧ Closed yss (orbL yss n f) := by
  have h := orb_aside hsys (passed_nil n) (closed_nil yss) hf (by simp)
  simpa using h.2
theorem idx_nodup (hnd : ord.Nodup) {x : Int} (hx : ord[k]? = some x) : idxL ord x = k := by
  refine idxL_some hx fun j hj h => ?_
  have hk := (List.getElem?_eq_some_iff.1 hx)
  have hj2 := (List.getElem?_eq_some_iff.1 h)
  have := (List.getElem_inj hnd).1 (hj2.2.trans hk.2.symm)
  omega
theorem numTo_len : (numTo ord n k).length = n := by simp [numTo]
theorem numTo_zero : numTo ord n 0 = List.replicate n 0 := by
  apply List.ext_getElem?
  intro j
  by_cases hj : j < n
  · simp [numTo, hj]
  · rw [List.getElem?_eq_none (by rw [numTo_len]; omega), List.getElem?_eq_none (by simp; omega)]
theorem numTo_at {x : Nat} (hx : x < n) : (numTo ord n k)[x]? = some (if (x : Int) ∈ ord.take k then idxL ord (x : Int) else 0) := by simp [numTo, hx]
theorem numTo_step (hp : Passed n ord) {x : Nat} (hx : ord[k]? = some (x : Int)) : (numTo ord n k).set x (k : Int) = numTo ord n (k + 1) := by
  have hxn := hp.1 _ (List.mem_of_getElem? hx)
  apply List.ext_getElem?
  intro j
  by_cases hj : j < n
  · by_cases hjx : x = j
    · subst hjx
      rw [List.getElem?_set_self (by rw [numTo_len]; exact hj), numTo_at hj, if_pos (by rw [List.take_add_one, hx]; simp), idx_nodup hp.2 hx]
    · rw [List.getElem?_set_ne hjx, numTo_at hj, numTo_at hj]
      have : (j : Int) ∈ ord.take (k + 1) ↔ (j : Int) ∈ ord.take k := by
        rw [List.take_add_one, hx]
        simp
        omega
      simp only [this]
  · rw [List.getElem?_eq_none (by rw [List.length_set, numTo_len]; omega), List.getElem?_eq_none (by rw [numTo_len]; omega)]
theorem numTo_all {x : Nat} (hx : x < n) (hm : (x : Int) ∈ ord) : (numTo ord n ord.length)[x]? = some (idxL ord (x : Int)) := by
  rw [numTo_at hx, List.take_of_length_le (Nat.le_refl _), if_pos hm]
theorem secRow_len : (secRow ord m).length = ord.length := by simp [secRow]
theorem secRow_succ {x : Int} (hx : ord[k]? = some x) : (secRow ord m).take (k + 1) = (secRow ord m).take k ++ [idxL ord (fz m x)] := by
  rw [List.take_add_one]
  simp [secRow, hx]
theorem secL_len : (secL yss n f).length = yss.length := by simp [secL]
theorem secL_succ (hm : yss[k]? = some m) : (secL yss n f).take (k + 1) = (secL yss n f).take k ++ [secRow (orbL yss n f) m] := by
  rw [List.take_add_one]
  simp [secL, hm]
end
end Go.Proofs.Ytmfddenjemoedaa
/- spec.l04Section. -/
namespace Go.Proofs.Ytmfddenjemoedaa
open Go.RowKit

abbrev secPs (H g3 g4 : Nat) (m : Value) (l c2 n k cR : Nat) (A2 AR : Option Addr) (ord nums : List Int) (vals : List Value) (L : List (List Int)) : List Pc :=
  [.blk H #[m] 45, .blk (H + 1) #[.slice none 0 0] 45, .own 2 A2 l c2 (ints ord), .own 2 (some ⟨g3, 0, none⟩) n n (ints nums), .blk g4 #[.slice AR k cR] 45, .rows 2 24 AR k cR vals L]

end Go.Proofs.Ytmfddenjemoedaa
/- spec.SectionAt, FacetAt, VertexFigureAt, FaceAsManiplex, CofaceAsManiplex. -/
namespace Go.Proofs.Ytmfddenjemoedaa
open Go.RowKit

noncomputable def scC (xss : List (List Int)) (f i k : Int) : Int := if okMan xss = true then (if flagB (flN xss) f = true ∧ 0 ≤ i ∧ i ≤ k ∧ k < xss.length then 0 else 2) else 1
noncomputable def secAt (xss : List (List Int)) (f i k : Nat) : List (List Int) := secL ((xss.drop i).take (k + 1 - i)) (flN xss) f
noncomputable def scR (xss : List (List Int)) (f i k : Int) : List (List Int) := if scC xss f i k = 0 then secAt xss f.toNat i.toNat k.toNat else []
noncomputable def faC (xss : List (List Int)) (f : Int) : Int := if scC xss f 0 0 = 0 then (if xss.length = 1 then 5 else 0) else scC xss f 0 0
noncomputable def faR (xss : List (List Int)) (f : Int) : List (List Int) := if faC xss f = 0 then secAt xss f.toNat 0 (xss.length - 2) else []
noncomputable def vfR (xss : List (List Int)) (f : Int) : List (List Int) := if faC xss f = 0 then secAt xss f.toNat 1 (xss.length - 1) else []
theorem scC_zero {xss : List (List Int)} {f i k : Int} (h : scC xss f i k = 0) : okMan xss = true ∧ flagB (flN xss) f = true ∧ 0 ≤ i ∧ i ≤ k ∧ k < xss.length := by
  unfold scC at h
  split at h
  · rename_i h1
    split at h
    · rename_i h2
      exact ⟨h1, h2⟩
    · simp at h
  · simp at h

end Go.Proofs.Ytmfddenjemoedaa
/- spec.FaceAsManiplex, CofaceAsManiplex. -/
namespace Go.Proofs.Ytmfddenjemoedaa
open Go.RowKit

noncomputable def fcC (xss : List (List Int)) (i y s : Int) : Int := if okMan xss = true then (if flagB xss.length i = true then (if idxL (facL xss (flN xss) i.toNat) y < 0 then 2 else (if i = s then 5 else 0)) else 2) else 1
noncomputable def fcF (xss : List (List Int)) (i y s : Int) : Int := if fcC xss i y s = 0 then idxL (facL xss (flN xss) i.toNat) y else 0
theorem fcC_zero {xss : List (List Int)} {i y s : Int} (h : fcC xss i y s = 0) : okMan xss = true ∧ flagB xss.length i = true ∧ 0 ≤ idxL (facL xss (flN xss) i.toNat) y ∧ i ≠ s := by
  unfold fcC at h
  split at h
  · rename_i h1
    split at h
    · rename_i h2
      split at h
      · simp at h
      · rename_i h3
        split at h
        · simp at h
        · rename_i h4
          exact ⟨h1, h2, by omega, h4⟩
    · simp at h
  · simp at h

noncomputable def fmR (xss : List (List Int)) (i y : Int) : List (List Int) := if fcC xss i y 0 = 0 then secAt xss (fcF xss i y 0).toNat 0 (i.toNat - 1) else []
noncomputable def cmC (xss : List (List Int)) (i y : Int) : Int := fcC xss i y ((xss.length : Int) - 1)
noncomputable def cmR (xss : List (List Int)) (i y : Int) : List (List Int) := if cmC xss i y = 0 then secAt xss (fcF xss i y ((xss.length : Int) - 1)).toNat (i.toNat + 1) (xss.length - 1) else []

end Go.Proofs.Ytmfddenjemoedaa
