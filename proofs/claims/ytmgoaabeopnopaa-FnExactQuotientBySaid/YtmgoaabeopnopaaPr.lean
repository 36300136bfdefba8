/- spec.OppositePoset: what holds while it is made; facts outside the walk. -/
import Derived.Test.YtmgoaabeopnopaaPq
namespace Go.Proofs.Ytmgoaabeopnopaa
open Go.RowKit

/-- The rows are apart from the slice v. -/
def Apart (w : World) (lo e : Nat) (A : Option Addr) (n c : Nat) (v : Value) : Prop :=
  ∃ vals : List Value, w.ownsRow lo e 1 (.slice A n c) n vals ∧ ∀ (j : Nat) (u : Value), vals[j]? = some u → ∀ k, u.ownBlock = some k → v.ownBlock ≠ some k
theorem ownSS_kept {w w' : World} {lo hi e n c b m : Nat} {A : Option Addr} {xss : List (List Int)} {v : Value} {vs : List Value} (h : OwnSS w lo hi e A n c xss) (he : e ≠ 2) (hv : w.ownsRow b 2 1 v m vs) (hg : w.grownBy w' v.ownBlock) (ap : Apart w lo e A n c v) : OwnSS w' lo hi e A n c xss := by
  obtain ⟨vals, h1, hp, h2, h3, h4⟩ := h
  obtain ⟨vals', q1, q2⟩ := ap
  obtain rfl := row_unique h1 q1
  refine ⟨vals, h1.kept hg (own_ne h1 hv he), hp, h2, fun j xs hj => ?_, h4⟩
  obtain ⟨A', c', e1, o1, p1⟩ := h3 j xs hj
  refine ⟨A', c', e1, o1.kept hg ?_, p1⟩
  cases hb : (Value.slice A' xs.length c').ownBlock with
  | none => exact .inl rfl
  | some k => exact .inr fun h => q2 j _ e1 k hb h.symm

section
variable {w w1 wr w4 : World} {cs : Array Value} {R : Int} {hi g c4 gb d4 : Nat} {A4 B4 : Option Addr} {rs : List Int} {rows : List (List Int)}
end
end Go.Proofs.Ytmgoaabeopnopaa
