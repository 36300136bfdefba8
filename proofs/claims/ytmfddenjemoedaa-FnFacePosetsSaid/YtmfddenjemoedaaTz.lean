/- TwinFlags of both. -/
import Derived.Test.YtmfddenjemoedaaTx
namespace Go.Proofs.Ytmfddenjemoedaa
open Go.RowKit

/-- The labels of the first k ranks. -/
def lbT (xss : List (List Int)) (n k : Nat) : List (List Int) := (List.range k).map fun i => facL xss n i
theorem lbT_at {xss : List (List Int)} {n k i : Nat} (h : i < k) : (lbT xss n k)[i]? = some (facL xss n i) := by simp [lbT, h]

def SmI (xss : List (List Int)) (n f g i : Nat) (sm : Bool) : Prop := sm = true ↔ ∀ j, j < i → (facL xss n j).getD f 0 = (facL xss n j).getD g 0
end Go.Proofs.Ytmfddenjemoedaa
