/- A region that draws its order, whose operations only read, and whose callees answer with a plain value and may make memory of their own: walked once. -/
import Derived.Test.YtjkddoiacifhpaaL1
namespace Go.Proofs.Ytjkddoiacifhpaa
open Go.RowKit

/-- A world in which all that was there is as it was. -/
structure BelowOf (w : World) where
  v : World
  h : Below w.heap.size w v
instance (w : World) : Nonempty (BelowOf w) := ⟨⟨w, Below.refl _ _⟩⟩
theorem wp_region_quiet_below {P : Program} {id : Nat} {Q : Exit → Act → World → Prop} {a : Act} {w : World} {l : List Oper} (hm : P.follows .mixedOrders = true) (hB : Region.lexB .any l.toArray = true)
    (h : wpQuiet P l.toArray (fun w' => ∃ p : BelowOf w, w' = p.v) (fun a' => ∀ w', (∃ p : BelowOf w, w' = p.v) → Q .normal a' w') l a) : (Code.region id l.toArray true).wp P Q a w :=
  wp_region_quiet (C := fun w' => ∃ p : BelowOf w, w' = p.v) hm hB ⟨⟨_, below_drewN (Below.refl _ _) 1⟩, rfl⟩ (by simpa using h)
theorem Calls.below_of {P : Program} {f : FuncId} {args : Array Value} {w : World} {p : BelowOf w} {v : Value} (h : Calls P f args p.v fun e w' => e = .returned v ∧ Below p.v.heap.size p.v w') :
    Calls P f args p.v fun e w'' => e = .returned v ∧ ∃ p' : BelowOf w, w'' = p'.v :=
  h.mono fun _ w'' ⟨he, hb⟩ => ⟨he, ⟨⟨w'', p.h.trans (hb.mono p.h.size)⟩, rfl⟩⟩
theorem BelowOf.cell {w : World} {b o : Nat} {x : Value} (h : w.cell? ⟨b, o, none⟩ = some x) : ∀ p : BelowOf w, p.v.cell? ⟨b, o, none⟩ = some x :=
  fun p => (p.h.cell (p := ⟨b, o, none⟩) (World.block_lt_of_cell? w _ h)).trans h
end Go.Proofs.Ytjkddoiacifhpaa
