/- Twin flags: impl. -/
import Derived.Test.YtmfddenjemoedaaTw
namespace Go.Proofs.Ytmfddenjemoedaa
open Go.RowKit

def TwPost (w : World) (xss : List (List Int)) (n N : Nat) (e : Ending) (w' : World) : Prop :=
  (∃ L, TwOk xss n N L ∧ L.length = 2 ∧ Ret1 w L e w') ∨ ((∀ f g : Nat, f < g → g < n → ¬ Tw xss n N f g) ∧ e = .returned (.slice none 0 0) ∧ Below w.heap.size w w')
theorem cn_bd {xss : List (List Int)} {n i : Nat} (hsys : okSys n xss = true) (hn : 0 < n) : 1 ≤ cN xss n i ∧ cN xss n i ≤ n := by
  have h1 := grt_fac (i := i) hsys
  have h2 : grtL (facL xss n i) = mxL (facL xss n i) + 1 := grtL_lab (okSys_erase hsys i) hn
  have h3 : 0 ≤ mxL (facL xss n i) := (mxL_lab (okSys_erase hsys i)).1
  unfold cN
  omega

end Go.Proofs.Ytmfddenjemoedaa
