import Derived.Test.YtjkddoiacifhpaaMb
namespace Go.Proofs.Ytjkddoiacifhpaa
open Go.RowKit

theorem heldM_any {A : Option Addr} {c n : Nat} {xss : List (List Int)} (k0 : Int) (w : World) (hx : xss.length = n) (ha : RdSS w A (marksSS k0 xss)) (hn : n ≤ 1048576) (hr : ∀ xs ∈ xss, (xs.length : Int) ≤ 1048576) (h0 : 0 ≤ k0) (h1 : k0 ≤ 1000000000000) :
    Calls Try.prog 96 #[.agg #[.slice A n c], .int .i64 k0] w fun e' w' => e' = .returned (.int .i64 (k0 + totalL xss)) ∧ Below w.heap.size w w' := by
  have HX := Lib.hid hx
  have HA := Lib.hid (ha.al (.cells #[.slice A n c] 51))
  have HR := Lib.hid hr
  have ht := totalL_le hr xss.length
  rw [List.take_length, hx] at ht
  have hz : 0 ≤ k0 + (totalL xss : Int) := by omega
  have hz2 : k0 + (totalL xss : Int) ≤ 3000000000000 := by omega
  clear hx ha hr
  go_enter Try.func96, Try.ntmps96
  go_wp2_with fail
  refine (heldSS_any k0 _ HX.out HA.out hn HR.out h0 (by omega)).mono ?_
  rintro e' w' ⟨rfl, rfl⟩
  go_wp2
  go_ret
  exact ⟨rfl, below1 w _⟩
end Go.Proofs.Ytjkddoiacifhpaa
