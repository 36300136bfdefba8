/- spec.ExtendManiplex, ExtendInside. -/
import Derived.Test.YtpmmpnhdimgkhaaGreatRm
import Derived.Test.YtpmmpnhdimgkhaaGreatL12
import Derived.Laws.Bits64b
namespace Go.Proofs.YtpmmpnhdimgkhaaGreat
open Go.RowKit

theorem xor_one (f : Nat) : f ^^^ 1 = if f % 2 = 0 then f + 1 else f - 1 := by
  have h1 : (f ^^^ 1) / 2 = f / 2 := by
    have := Nat.xor_div_two (a := f) (b := 1)
    simpa using this
  have h2 : (f ^^^ 1) % 2 = 1 ↔ ¬ f % 2 = 1 := by simp [Nat.xor_mod_two_eq_one (a := f) (b := 1)]
  split <;> omega
theorem i64_xor_one (a : Nat) (ha : a < 1000000) : bits .xor .i64 (a : Int) 1 = ((if a % 2 = 0 then a + 1 else a - 1 : Nat) : Int) := by
  rw [← xor_one]
  have hx : a ^^^ 1 < 1000002 := by rw [xor_one]; split <;> omega
  have h1 : (BitVec.ofInt 64 (a : Int)).toNat = a := by
    rw [BitVec.ofInt_natCast, BitVec.toNat_ofNat]; exact Nat.mod_eq_of_lt (by omega)
  have h2 : (BitVec.ofInt 64 (1 : Int)).toNat = 1 := by decide
  show IntKind.i64.wrap ((BitVec.ofInt 64 (a : Int) ^^^ BitVec.ofInt 64 1).toNat : Int) = _
  rw [BitVec.toNat_xor, h1, h2]
  exact IntWalk.i64_in _ (by omega)
/-- The move that changes the halves, and what becomes of a move. -/
def tuL (M : Nat) : List Int := (List.range M).map fun (f : Nat) => ((if f % 2 = 0 then f + 1 else f - 1 : Nat) : Int)
def mvL (M : Nat) (m : List Int) : List Int := (List.range M).map fun (f : Nat) => 2 * fz m ((f / 2 : Nat) : Int) + ((f % 2 : Nat) : Int)
def mvS (M : Nat) (xss : List (List Int)) : List (List Int) := xss.map (mvL M)
def exL (inner : Bool) (n : Nat) (xss : List (List Int)) : List (List Int) := if inner = true then tuL (2 * n) :: mvS (2 * n) xss else mvS (2 * n) xss ++ [tuL (2 * n)]
theorem tuL_len (M : Nat) : (tuL M).length = M := by simp [tuL]
theorem mvL_len (M : Nat) (m : List Int) : (mvL M m).length = M := by simp [mvL]
theorem mvS_len (M : Nat) (xss : List (List Int)) : (mvS M xss).length = xss.length := by simp [mvS]
theorem tuL_succ {M f : Nat} (h : f < M) : (tuL M).take (f + 1) = (tuL M).take f ++ [((if f % 2 = 0 then f + 1 else f - 1 : Nat) : Int)] := by
  rw [List.take_add_one]
  simp [tuL, h]
theorem mvL_succ {M f : Nat} {m : List Int} (h : f < M) : (mvL M m).take (f + 1) = (mvL M m).take f ++ [2 * fz m ((f / 2 : Nat) : Int) + ((f % 2 : Nat) : Int)] := by
  rw [List.take_add_one]
  simp [mvL, h]
theorem mvS_succ {M k : Nat} {xss : List (List Int)} {m : List Int} (h : xss[k]? = some m) : (mvS M xss).take (k + 1) = (mvS M xss).take k ++ [mvL M m] := by
  rw [List.take_add_one]
  simp [mvS, h]
theorem exL_len (inner : Bool) (n : Nat) (xss : List (List Int)) : (exL inner n xss).length = xss.length + 1 := by
  unfold exL
  split <;> simp [mvS_len]
noncomputable def exR (inner : Bool) (xss : List (List Int)) : List (List Int) := if okMan xss = true ∧ xss.length ≠ 5 ∧ flN xss ≤ 200 then exL inner (flN xss) xss else []
noncomputable def exC (xss : List (List Int)) : Int := if okMan xss = true then (if xss.length = 5 then 5 else (if flN xss ≤ 200 then 0 else 3)) else 1

end Go.Proofs.YtpmmpnhdimgkhaaGreat
