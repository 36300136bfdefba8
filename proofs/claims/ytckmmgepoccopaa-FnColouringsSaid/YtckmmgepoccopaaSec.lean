/- Sections: facts outside the walks. -/
import Derived.Test.YtckmmgepoccopaaL9
import Derived.Test.YtckmmgepoccopaaSep
namespace Go.Proofs.Ytckmmgepoccopaa
open Go.RowKit

theorem okSys_cut {n : Int} {xss : List (List Int)} (h : okSys n xss = true) (i k : Nat) : okSys n ((xss.drop i).take k) = true := by
  have h1 := sys_parts h
  refine decide_eq_true ⟨h1.1, h1.2.1, ?_, fun xs hx => h1.2.2.2 xs (List.mem_of_mem_drop (List.mem_of_mem_take hx))⟩
  have : ((xss.drop i).take k).length ≤ xss.length := by simp; omega
  omega
/-- The numbers that flags get: those of the first k of a list. -/
def numTo (ord : List Int) (n k : Nat) : List Int := (List.range n).map fun (x : Nat) => if (x : Int) ∈ ord.take k then idxL ord (x : Int) else 0
def secRow (ord m : List Int) : List Int := ord.map fun x => idxL ord (fz m x)
def secL (yss : List (List Int)) (n f : Nat) : List (List Int) := yss.map (secRow (orbL yss n f))
section
variable {yss : List (List Int)} {ord m : List Int} {n k f : Nat}
theorem orb_facts (hsys : okSys n yss = true) (hf : f < n) : Passed n (orbL yss n f) ∧ (f : Int) ∈ orbL yss n f ∧ Closed yss (orbL yss n f) := by
  have h := orb_aside hsys (passed_nil n) (closed_nil yss) hf (by simp)
  simpa using h.2
theorem idx_nodup (hnd : ord.Nodup) {x : Int} (hx : ord[k]? = some x) : idxL ord x = k := by
  refine idxL_some hx fun j hj h => ?_
  have hk := (List.getElem?_eq_some_iff.1 hx)
  have hj2 := (List.getElem?_eq_some_iff.1 h)
  have := (List.getElem_inj hnd).1 (hj2.2.trans hk.2.symm)
  omega
theorem numTo_len : (numTo ord n k).length = n := by simp [numTo]
theorem numTo_zero : numTo ord n 0 = List.replicate n 0 := by
  apply List.ext_getElem?
  intro j
  by_cases hj : j < n
  · simp [numTo, hj]
  · rw [List.getElem?_eq_none (by rw [numTo_len]; omega), List.getElem?_eq_none (by simp; omega)]
theorem numTo_at {x : Nat} (hx : x < n) : (numTo ord n k)[x]? = some (if (x : Int) ∈ ord.take k then idxL ord (x : Int) else 0) := by simp [numTo, hx]
theorem numTo_step (hp : Passed n ord) {x : Nat} (hx : ord[k]? = some (x : Int)) : (numTo ord n k).set x (k : Int) = numTo ord n (k + 1) := by
  have hxn := hp.1 _ (List.mem_of_getElem? hx)
  apply List.ext_getElem?
  intro j
  by_cases hj : j < n
  · by_cases hjx : x = j
    · subst hjx
      rw [List.getElem?_set_self (by rw [numTo_len]; exact hj), numTo_at hj, if_pos (by rw [List.take_add_one, hx]; simp), idx_nodup hp.2 hx]
    · rw [List.getElem?_set_ne hjx, numTo_at hj, numTo_at hj]
      have : (j : Int) ∈ ord.take (k + 1) ↔ (j : Int) ∈ ord.take k := by
        rw [List.take_add_one, hx]
        simp
        omega
      simp only [this]
  · rw [List.getElem?_eq_none (by rw [List.length_set, numTo_len]; omega), List.getElem?_eq_none (by rw [numTo_len]; omega)]
theorem numTo_all {x : Nat} (hx : x < n) (hm : (x : Int) ∈ ord) : (numTo ord n ord.length)[x]? = some (idxL ord (x : Int)) := by
  rw [numTo_at hx, List.take_of_length_le (Nat.le_refl _), if_pos hm]
theorem secRow_len : (secRow ord m).length = ord.length := by simp [secRow]
theorem secRow_succ {x : Int} (hx : ord[k]? = some x) : (secRow ord m).take (k + 1) = (secRow ord m).take k ++ [idxL ord (fz m x)] := by
  rw [List.take_add_one]
  simp [secRow, hx]
theorem secL_len : (secL yss n f).length = yss.length := by simp [secL]
theorem secL_succ (hm : yss[k]? = some m) : (secL yss n f).take (k + 1) = (secL yss n f).take k ++ [secRow (orbL yss n f) m] := by
  rw [List.take_add_one]
  simp [secL, hm]
end
end Go.Proofs.Ytckmmgepoccopaa
