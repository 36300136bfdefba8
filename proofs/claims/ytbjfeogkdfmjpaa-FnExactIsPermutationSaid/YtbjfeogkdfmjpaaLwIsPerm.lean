import Derived.Test.YtbjfeogkdfmjpaaWkE
import Derived.Test.YtbjfeogkdfmjpaaFrame
namespace Go.Proofs.Ytbjfeogkdfmjpaa
open Go.RowKit

set_option maxHeartbeats 400000 in
theorem law_isPermutation {A : Option Addr} {c : Nat} {xs : List Int} {n : Nat} (w : World) (hx : xs.length = n) (ha : Rd w A (ints xs)) (hm : n ≤ maxLen) :
    Calls Try.prog 7 #[.slice A n c] w fun e w' => e = .returned (.bool true) ∧ Below w.heap.size w w' := by
  unfold maxLen at hm
  have HX := Lib.hid hx
  have HA := Lib.hid ha
  clear hx ha
  by_cases hn : 1048576 < n
  · go_enter Try.func7, Try.ntmps7
    go_wp2
    go_ret
    exact ⟨rfl, Below.refl _ _⟩
  have hn' : n ≤ 1048576 := by omega
  clear hn
  go_enter Try.func7, Try.ntmps7
  go_wp2_with fail
  refine (to_any w HX.out HA.out hn').mono ?_
  rintro e w1 ⟨A1, c1, rfl, own1, bel1⟩
  have O1 := Lib.hid own1
  have B1 := Lib.hid bel1
  clear own1 bel1
  go_wp2_with fail
  refine (sperm_any w1 HX.out (own_rd O1.out) hn').mono ?_
  rintro e w2 ⟨rfl, bel2⟩
  have B2 := Lib.hid (B1.out.trans (bel2.mono B1.out.size))
  clear bel2 O1 B1
  go_wp2_with fail
  refine (to_any w2 HX.out (HA.out.keep B2.out) hn').mono ?_
  rintro e w3 ⟨A3, c3, rfl, own3, bel3⟩
  have B3 := Lib.hid (B2.out.trans (bel3.mono B2.out.size))
  have O3 := Lib.hid own3
  clear own3 bel3 B2
  go_wp2_with fail
  refine (iperm_any w3 HX.out (own_rd O3.out) hn').mono ?_
  rintro e w4 ⟨rfl, bel4⟩
  have B4 := Lib.hid (B3.out.trans (bel4.mono B3.out.size))
  have O4 := Lib.hid (own_below O3.out bel4 (Nat.le_refl _))
  clear bel4 B3 O3
  have hne : (okP xs != okP xs) = false := by simp
  go_wp2_with fail
  clear hne
  refine (to_any w4 HX.out (HA.out.keep B4.out) hn').mono ?_
  rintro e w5 ⟨A5, c5, rfl, own5, bel5⟩
  have B5 := Lib.hid (B4.out.trans (bel5.mono B4.out.size))
  have O5 := Lib.hid own5
  have O45 := Lib.hid (own_below O4.out bel5 (Nat.le_refl _))
  clear own5 bel5 B4 O4
  go_wp2_with fail
  refine (eq_any w5 HX.out HX.out (own_rd O45.out) (own_rd O5.out) (by omega)).mono ?_
  rintro e w6 ⟨rfl, j, rfl⟩
  have hd : decide (xs = xs) = true := decide_eq_true rfl
  rw [hd]
  clear hd
  go_wp2
  go_ret
  exact ⟨rfl, below_drewN B5.out _⟩

theorem walk_FnExactIsPermutation (a0 : Option Addr) (len0 cap0 : Nat) (z0 : List Int) (w : World) (w0 : IsRow .i64 w a0 len0 cap0 z0) :
    Calls Try.prog 7 #[.slice a0 len0 cap0] w fun e w' => e = .returned (.bool true) ∧ Below w.heap.size w w' := by
  obtain ⟨xs, hx, ha, _, hm⟩ := isRow_rd w0
  exact law_isPermutation w hx ha hm
end Go.Proofs.Ytbjfeogkdfmjpaa
