/- spec.l05Replace. -/
import Derived.Test.YtckmmgepoccopaaWt
namespace Go.Proofs.Ytckmmgepoccopaa
open Go.RowKit

noncomputable def repL (xss : List (List Int)) (n : Nat) (wss : List (List Int)) : List (List Int) := secL (wdsL xss n wss) n 0
end Go.Proofs.Ytckmmgepoccopaa
