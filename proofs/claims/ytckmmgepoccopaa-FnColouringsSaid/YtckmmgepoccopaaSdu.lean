/- spec.IsSelfDual. -/
import Derived.Test.YtckmmgepoccopaaSw
import Derived.Test.YtckmmgepoccopaaSd
namespace Go.Proofs.Ytckmmgepoccopaa
open Go.RowKit

section
variable {xss : List (List Int)} {n : Nat}
theorem leaL_le2 (hsys : okSys (flN xss) xss = true) (hn : 0 < flN xss) (hall : ∀ q : Nat, q < flN xss → (orbL xss (flN xss) q).length = flN xss) : ∀ xs ∈ leaL xss, (xs.length : Int) ≤ 1048576 := fun xs hx => by
  have h1 := lstTo_row hall (flN xss - 1) (by omega) xs hx
  have h2 := (sys_parts hsys).2.1
  omega
/-- A section's first row is as long as its orbit. -/
theorem secL_fl {yss : List (List Int)} {f : Nat} (h : 0 < yss.length) : flN (secL yss n f) = (orbL yss n f).length := by
  cases yss with
  | nil => simp at h
  | cons a r => simp [flN, secL, secRow]
theorem dualL_whole (hsys : okSys n xss = true) (hn : 0 < n) (hpos : 0 < xss.length) :
    0 < flN (dualL xss n) ∧ okSys (flN (dualL xss n)) (dualL xss n) = true ∧ ∀ q : Nat, q < flN (dualL xss n) → (orbL (dualL xss n) (flN (dualL xss n)) q).length = flN (dualL xss n) := by
  have hK : okSys n (wdsL xss n (dualW xss.length)) = true := wdsL_sys hsys (by rw [dualW_len]; exact (sys_parts hsys).2.2.1) (fun wd h => (dualW_ok rfl wd h).1)
  have e1 : dualL xss n = secL (wdsL xss n (dualW xss.length)) n 0 := rfl
  have hf : flN (dualL xss n) = (orbL (wdsL xss n (dualW xss.length)) n ((0 : Nat) : Int)).length := by
    rw [e1]
    exact secL_fl (by rw [wdsL_len, dualW_len]; exact hpos)
  have hm := (orb_facts hK hn).2.1
  refine ⟨?_, ?_, fun q hq => ?_⟩
  · rw [hf]
    exact List.length_pos_of_mem hm
  · rw [hf, e1]
    exact secL_sys hK hn rfl
  · rw [hf] at hq ⊢
    rw [e1]
    exact secL_all hK hn rfl hq
end
noncomputable def sduB (xss : List (List Int)) : Bool := decide (okMan xss = true ∧ leaL xss = leaL (dualL xss (flN xss)))

end Go.Proofs.Ytckmmgepoccopaa
