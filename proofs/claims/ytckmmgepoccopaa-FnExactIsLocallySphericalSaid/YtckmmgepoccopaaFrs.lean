/- The sections of a maniplex, by the labels of their flags, and their least forms. -/
import Derived.Test.YtckmmgepoccopaaPool
import Derived.Test.YtckmmgepoccopaaSdu
namespace Go.Proofs.Ytckmmgepoccopaa
open Go.RowKit

/-- The first flag of the section number o, and its least form. -/
def fstO (yss : List (List Int)) (n o : Nat) : Nat := (idxL (labL yss n) (o : Int)).toNat
noncomputable def frmO (yss : List (List Int)) (n o : Nat) : List (List Int) := leaL (secL yss n (fstO yss n o))
def cntO (yss : List (List Int)) (n : Nat) : Nat := (orbsTo yss n n).length
noncomputable def fmsO (yss : List (List Int)) (n : Nat) : List (List (List Int)) := (List.range (cntO yss n)).map (frmO yss n)
section
variable {yss : List (List Int)} {n o f : Nat}
theorem fst_in (hsys : okSys n yss = true) (ho : o < cntO yss n) : fstO yss n o < n ∧ idxL (labL yss n) (o : Int) = (fstO yss n o : Int) := by
  have hob := List.getElem?_eq_getElem ho
  obtain ⟨p, hp, he⟩ := orbsTo_of n (List.mem_of_getElem? hob)
  have hin := (orb_aside hsys (passed_nil _) (closed_nil yss) hp (by simp)).2.2.1
  have hmem : (o : Int) ∈ labL yss n := List.mem_of_getElem? ((lab_iff hsys hp).2 ⟨_, hob, by rw [he]; exact hin⟩)
  have h1 := idxL_bd (labL yss n) (o : Int)
  have h2 : 0 ≤ idxL (labL yss n) (o : Int) := by simpa [hmem] using idxL_mem (labL yss n) (o : Int)
  rw [labL_length] at h1
  unfold fstO
  omega
theorem cntO_le (hsys : okSys n yss = true) : cntO yss n ≤ n := orbs_cnt hsys (Nat.le_refl n)
theorem fmsO_len : (fmsO yss n).length = cntO yss n := by simp [fmsO]
theorem fmsO_at (ho : o < cntO yss n) : (fmsO yss n).getD o [] = frmO yss n o := by simp [fmsO, ho]
/-- A section is whole: what its least form asks for. -/
theorem secL_whole (hsys : okSys n yss = true) (hf : f < n) (hpos : 0 < yss.length) :
    0 < flN (secL yss n f) ∧ okSys (flN (secL yss n f)) (secL yss n f) = true ∧ ∀ q : Nat, q < flN (secL yss n f) → (orbL (secL yss n f) (flN (secL yss n f)) q).length = flN (secL yss n f) := by
  have hfl : flN (secL yss n f) = (orbL yss n f).length := secL_fl hpos
  have hm := (orb_facts hsys hf).2.1
  refine ⟨?_, ?_, fun q hq => ?_⟩
  · rw [hfl]
    exact List.length_pos_of_mem hm
  · rw [hfl]
    exact secL_sys hsys hf rfl
  · rw [hfl] at hq ⊢
    exact secL_all hsys hf rfl hq
theorem frmO_len : (frmO yss n o).length = yss.length := by rw [frmO, leaL_len, secL_len]
theorem frmO_le (hsys : okSys n yss = true) (ho : o < cntO yss n) (hpos : 0 < yss.length) : ∀ xs ∈ frmO yss n o, (xs.length : Int) ≤ 1048576 := by
  have h := secL_whole hsys (fst_in hsys ho).1 hpos
  exact leaL_le2 h.2.1 h.1 h.2.2
end
end Go.Proofs.Ytckmmgepoccopaa
