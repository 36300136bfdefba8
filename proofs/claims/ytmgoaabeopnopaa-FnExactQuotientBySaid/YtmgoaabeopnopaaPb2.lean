/- impl.Poset.marks, hasLists, isTransitive, IsPoset. -/
import Derived.Test.YtmgoaabeopnopaaPb
namespace Go.Proofs.Ytmgoaabeopnopaa
open Go.RowKit

/-- What a call gives back that marks the points of a list. -/
def RetB (w : World) (n : Nat) (l : List Int) (e : Ending) (w' : World) : Prop :=
  ∃ g, e = .returned (.slice (some ⟨g, 0, none⟩) n n) ∧ w'.ownsRow w.heap.size 4 1 (.slice (some ⟨g, 0, none⟩) n n) n (seenL n l) ∧ Below w.heap.size w w'
end Go.Proofs.Ytmgoaabeopnopaa
