/- impl.Poset.opposite. -/
import Derived.Test.YtmgoaabeopnopaaPc
import Derived.Test.YtmgoaabeopnopaaPo
import Derived.Test.YtmgoaabeopnopaaL12
import Derived.Test.YtmgoaabeopnopaaPl
namespace Go.Proofs.Ytmgoaabeopnopaa
open Go.RowKit

section
variable {w w2 w3 wr w4 : World} {cs : Array Value} {hi N : Nat} {rs : List Int} {rows : List (List Int)}
theorem pin_of (w2 : World) (N : Nat) : InB (.slice (some ⟨w2.heap.size, 0, none⟩) N N) w2.heap.size (w2.heap.size + 1) := fun k hk => by
  simp [Value.ownBlock] at hk
  omega
end

/-- The first g elements of a list, and zeros behind. -/
def rsAt (X : List Int) (n g : Nat) : List Int := X.take g ++ List.replicate (n - g) 0
theorem rsAt_zero (X : List Int) (n : Nat) : rsAt X n 0 = List.replicate n 0 := by simp [rsAt]
theorem rsAt_all {X : List Int} {n : Nat} (h : X.length = n) : rsAt X n n = X := by simp [rsAt, List.take_of_length_le (show X.length ≤ n by omega)]
theorem rsAt_set {X : List Int} {n g : Nat} {x : Int} (h : X.length = n) (hx : X[g]? = some x) : (rsAt X n g).set g x = rsAt X n (g + 1) := fill_step h hx

end Go.Proofs.Ytmgoaabeopnopaa
