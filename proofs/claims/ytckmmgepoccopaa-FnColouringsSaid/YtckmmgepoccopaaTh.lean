/- spec.l05Three, OppositeOf, HalfOf. -/
import Derived.Test.YtckmmgepoccopaaDu
namespace Go.Proofs.Ytckmmgepoccopaa
open Go.RowKit

theorem rd_blk {w : World} {g : Nat} {cs : Array Value} {t : TypeId} (h : Blk w g cs t) : Rd w (some ⟨g, 0, none⟩) cs.toList := fun _ => ⟨g, 0, rfl, fun k u hu => by
  rw [Nat.zero_add]
  exact h.cell (by simpa using hu)⟩
theorem rdSS3 {w : World} {g c1 c2 c3 n1 n2 n3 : Nat} {A1 A2 A3 : Option Addr} {a b c : List Int} {t : TypeId} (h : Blk w g #[.slice A1 n1 c1, .slice A2 n2 c2, .slice A3 n3 c3] t) (h1 : Rd w A1 (ints a)) (h2 : Rd w A2 (ints b)) (h3 : Rd w A3 (ints c)) (l1 : a.length = n1) (l2 : b.length = n2) (l3 : c.length = n3) (hb : n1 ≤ 1000 ∧ n2 ≤ 1000 ∧ n3 ≤ 1000) : RdSS w (some ⟨g, 0, none⟩) [a, b, c] := by
  subst l1
  subst l2
  subst l3
  refine ⟨[.slice A1 a.length c1, .slice A2 b.length c2, .slice A3 c.length c3], rd_blk h, rfl, fun j xs hj => ?_⟩
  match j, hj with
  | 0, hj => injection hj with hj; subst hj; exact ⟨A1, c1, rfl, h1, by omega⟩
  | 1, hj => injection hj with hj; subst hj; exact ⟨A2, c2, rfl, h2, by omega⟩
  | 2, hj => injection hj with hj; subst hj; exact ⟨A3, c3, rfl, h3, by omega⟩
noncomputable def thR (xss : List (List Int)) (n : Nat) (wss : List (List Int)) : List (List Int) := if xss.length = 3 ∧ okMan (repL xss n wss) = true then repL xss n wss else []
noncomputable def thC (xss : List (List Int)) (n : Nat) (wss : List (List Int)) : Int := if xss.length = 3 ∧ okMan (repL xss n wss) = true then 0 else 5

def op5W : List (List Int) := [[0], [1], [0, 2]]
noncomputable def op5R (xss : List (List Int)) : List (List Int) := if okMan xss = true then thR xss (flN xss) op5W else []
noncomputable def op5C (xss : List (List Int)) : Int := if okMan xss = true then thC xss (flN xss) op5W else 1

def ha5W : List (List Int) := [[0, 1, 0], [2], [1]]
noncomputable def ha5R (xss : List (List Int)) : List (List Int) := if okMan xss = true then thR xss (flN xss) ha5W else []
noncomputable def ha5C (xss : List (List Int)) : Int := if okMan xss = true then thC xss (flN xss) ha5W else 1

end Go.Proofs.Ytckmmgepoccopaa
