import Derived.Test.YtbjfeogkdfmjpaaWkR
import Derived.Test.YtbjfeogkdfmjpaaFrame
namespace Go.Proofs.Ytbjfeogkdfmjpaa
open Go.RowKit

set_option maxHeartbeats 3200000 in
theorem law_PermutationOrder {A0 : Option Addr} {c0 : Nat} {x0 : List Int} {n0 : Nat} (w : World) (hx0 : x0.length = n0) (ha0 : Rd w A0 (ints x0)) (hm0 : n0 ≤ maxLen) :
    Calls Try.prog 11 #[.slice A0 n0 c0] w fun e w' => e = .returned (.bool true) ∧ Below w.heap.size w w' := by
  unfold maxLen at hm0
  have HX0 := Lib.hid hx0
  have HA0 := Lib.hid ha0
  clear hx0 ha0
  by_cases hn0 : 1048576 < n0
  · go_enter Try.func11, Try.ntmps11
    go_wp2
    go_ret
    exact ⟨rfl, Below.refl _ _⟩
  have hb0 : n0 ≤ 1048576 := by omega
  clear hn0
  have B0 := Lib.hid (Below.refl w.heap.size w)
  go_enter Try.func11, Try.ntmps11
  go_wp2_with fail
  refine (to_any w HX0.out (HA0.out.keep B0.out) hb0).mono ?_
  rintro e w1 ⟨Aa0, ca0, rfl, own, bel⟩
  have s0 : w.heap.size ≤ w1.heap.size := bel.size
  have B1 := Lib.hid (B0.out.trans (bel.mono B0.out.size))
  have Oa0_1 := Lib.hid own
  have Pa0 := Lib.hid (own_in own)
  clear bel own B0 
  go_wp2_with fail
  refine (sOrd_any w1 HX0.out (own_rd Oa0_1.out) hb0).mono ?_
  rintro e w2 ⟨rfl, bel⟩
  have s1 : w1.heap.size ≤ w2.heap.size := bel.size
  have Oa0_2 := Lib.hid (own_below Oa0_1.out bel (Nat.le_refl _))
  have B2 := Lib.hid (B1.out.trans (bel.mono B1.out.size))
  clear bel B1 Oa0_1
  clear Oa0_2 Pa0
  go_wp2_with fail
  refine (to_any w2 HX0.out (HA0.out.keep B2.out) hb0).mono ?_
  rintro e w3 ⟨Ay0, cy0, rfl, own, bel⟩
  have s2 : w2.heap.size ≤ w3.heap.size := bel.size
  have B3 := Lib.hid (B2.out.trans (bel.mono B2.out.size))
  have Oy0_3 := Lib.hid own
  have Py0 := Lib.hid (own_in own)
  clear bel own B2 
  go_wp2_with fail
  refine (iOrd_any w3 HX0.out (own_rd Oy0_3.out) hb0).mono ?_
  rintro e w4 ⟨rfl, bel⟩
  have s3 : w3.heap.size ≤ w4.heap.size := bel.size
  have Oy0_4 := Lib.hid (own_below Oy0_3.out bel (Nat.le_refl _))
  have B4 := Lib.hid (B3.out.trans (bel.mono B3.out.size))
  clear bel B3 Oy0_3
  go_wp2_with fail
  refine (to_any w4 HX0.out (HA0.out.keep B4.out) hb0).mono ?_
  rintro e w5 ⟨Az0, cz0, rfl, own, bel⟩
  have s4 : w4.heap.size ≤ w5.heap.size := bel.size
  have Oy0_5 := Lib.hid (own_below Oy0_4.out bel (Nat.le_refl _))
  have B5 := Lib.hid (B4.out.trans (bel.mono B4.out.size))
  have Oz0_6 := Lib.hid own
  have Pz0 := Lib.hid (own_in own)
  clear bel own B4 Oy0_4
  go_wp2_with fail
  refine (eq_same w5 HX0.out HX0.out (own_rd Oy0_5.out) (own_rd Oz0_6.out) (by omega)).mono ?_
  rintro e w6 ⟨rfl, bel⟩
  have s5 : w5.heap.size ≤ w6.heap.size := bel.size
  have Oy0_7 := Lib.hid (own_below Oy0_5.out bel (Nat.le_refl _))
  have Oz0_8 := Lib.hid (own_below Oz0_6.out bel (Nat.le_refl _))
  have B6 := Lib.hid (B5.out.trans (bel.mono B5.out.size))
  clear bel B5 Oy0_5 Oz0_6
  clear Oz0_8 Pz0
  go_wp2
  go_ret
  exact ⟨rfl, B6.out⟩

theorem walk_FnExactPermutationOrder (a0 : Option Addr) (len0 cap0 : Nat) (z0 : List Int) (w : World) (w0 : IsRow .i64 w a0 len0 cap0 z0) :
    Calls Try.prog 11 #[.slice a0 len0 cap0] w fun e w' => e = .returned (.bool true) ∧ Below w.heap.size w w' := by
  obtain ⟨x0, hx0, ha0, _, hm0⟩ := isRow_rd w0
  exact law_PermutationOrder w hx0 ha0 hm0
end Go.Proofs.Ytbjfeogkdfmjpaa
