/- spec.IsSelfPetrie. -/
import Derived.Test.YtckmmgepoccopaaPe5
import Derived.Test.YtckmmgepoccopaaSm2
import Derived.Test.YtckmmgepoccopaaL9
import Derived.Test.YtckmmgepoccopaaStc
namespace Go.Proofs.Ytckmmgepoccopaa
open Go.RowKit

/-- The least form of a maniplex. -/
noncomputable def leaL (xss : List (List Int)) : List (List Int) := lstTo xss (flN xss) (flN xss - 1)
theorem leaL_len (xss : List (List Int)) : (leaL xss).length = xss.length := lstTo_len _ _ _
theorem leaL_le {xss : List (List Int)} (h : okMan xss = true) : ∀ xs ∈ leaL xss, (xs.length : Int) ≤ 1048576 := fun xs hx => by
  have hman := okMan_iff.1 h
  have h1 := lstTo_row (fun q hq => hman.all hq) (flN xss - 1) (by have := hman.f2; omega) xs hx
  have h2 := (sys_parts hman.sys).2.1
  omega
noncomputable def spB5 (xss : List (List Int)) : Bool := decide (peC xss = 0 ∧ leaL xss = leaL (peR xss))
theorem peC_zero {xss : List (List Int)} (h : peC xss = 0) : okMan xss = true ∧ okMan (peR xss) = true := by
  unfold peC at h
  split at h
  · rename_i h1
    split at h
    · rename_i h2
      exact ⟨h1, by rw [peR, if_pos ⟨h1, h2⟩]; exact h2.2⟩
    · omega
  · omega

end Go.Proofs.Ytckmmgepoccopaa
