/- spec.l01Index, l01Has, l03Is, IsPoset. -/
import Derived.Test.YtpmmpnhdimgkhaaPb2
namespace Go.Proofs.Ytpmmpnhdimgkhaa
open Go.RowKit

theorem in_yes_bel (x a b : Int) (w : World) (h1 : a ≤ x) (h2 : x ≤ b) : Calls Try.prog 122 #[.int .i64 x, .int .i64 a, .int .i64 b] w fun e w' => e = .returned (.bool true) ∧ Below w.heap.size w w' :=
  (in_yes x a b w h1 h2).mono fun _ _ ⟨he, hb⟩ => ⟨he, hb ▸ Below.refl _ _⟩
theorem in_no_bel (x a b : Int) (w : World) (h : x < a ∨ b < x) : Calls Try.prog 122 #[.int .i64 x, .int .i64 a, .int .i64 b] w fun e w' => e = .returned (.bool false) ∧ Below w.heap.size w w' :=
  (in_no x a b w h).mono fun _ _ ⟨he, hb⟩ => ⟨he, hb ▸ Below.refl _ _⟩

/-- The elements before e are in order. -/
structure PosTo (R : Int) (xs : List Int) (bss : List (List Int)) (e : Nat) (l : Int) : Prop where
  rk : RkTo R xs e l
  row : ∀ (i : Nat) (b : List Int), i < e → bss[i]? = some b → RowOk xs i b
  tr : ∀ (i : Nat) (b : List Int), i < e → bss[i]? = some b → ∀ d ∈ b, TrEl bss b d

end Go.Proofs.Ytpmmpnhdimgkhaa
