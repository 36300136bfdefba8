/- spec.l04Before. -/
import Derived.Test.YtckmmgepoccopaaSm2
import Derived.Test.YtckmmgepoccopaaL8
namespace Go.Proofs.Ytckmmgepoccopaa
open Go.RowKit

/-- A maniplex stands before another one in lists of forms. -/
def befB (xss yss : List (List Int)) : Bool := if flN xss = flN yss then decide (cmpLL xss yss < 0) else decide (flN xss < flN yss)

theorem cell_s3 {w W : World} {b o p q b0 o0 : Nat} {u v x : Value} (h0 : w.cell? ⟨b0, o0, none⟩ = some x) (h : Below w.heap.size w W ∧ W.cell? ⟨p, q, none⟩ = some v ∧ W.cell? ⟨b, o, none⟩ = some u) : W.cell? ⟨b0, o0, none⟩ = some x := cell_be h0 h.1
end Go.Proofs.Ytckmmgepoccopaa
