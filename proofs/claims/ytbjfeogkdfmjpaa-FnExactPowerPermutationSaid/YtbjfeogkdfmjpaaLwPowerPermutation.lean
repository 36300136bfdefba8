import Derived.Test.YtbjfeogkdfmjpaaWkU
import Derived.Test.YtbjfeogkdfmjpaaFrame
namespace Go.Proofs.Ytbjfeogkdfmjpaa
open Go.RowKit

set_option maxHeartbeats 3200000 in
theorem law_PowerPermutation {A0 : Option Addr} {c0 : Nat} {x0 : List Int} {n0 : Nat} {k1 : Int} (w : World) (hx0 : x0.length = n0) (ha0 : Rd w A0 (ints x0)) (hm0 : n0 ≤ maxLen) (hw1 : (Lit.int .i64 k1).wf = true) :
    Calls Try.prog 10 #[.slice A0 n0 c0, .int .i64 k1] w fun e w' => e = .returned (.bool true) ∧ Below w.heap.size w w' := by
  unfold maxLen at hm0
  have HX0 := Lib.hid hx0
  have HA0 := Lib.hid ha0
  clear hx0 ha0
  have HW1 := Lib.hid hw1
  clear hw1
  by_cases hn0 : 1048576 < n0
  · go_enter Try.func10, Try.ntmps10
    go_wp2
    go_ret
    exact ⟨rfl, Below.refl _ _⟩
  have hb0 : n0 ≤ 1048576 := by omega
  clear hn0
  have B0 := Lib.hid (Below.refl w.heap.size w)
  go_enter Try.func10, Try.ntmps10
  go_wp2_with fail
  refine (to_any w HX0.out (HA0.out.keep B0.out) hb0).mono ?_
  rintro e w1 ⟨Aa0, ca0, rfl, own, bel⟩
  have s0 : w.heap.size ≤ w1.heap.size := bel.size
  have B1 := Lib.hid (B0.out.trans (bel.mono B0.out.size))
  have Oa0_1 := Lib.hid own
  have Pa0 := Lib.hid (own_in own)
  clear bel own B0 
  go_wp2_with fail
  refine (sPow_any k1 w1 HX0.out (own_rd Oa0_1.out) hb0).mono ?_
  rintro e w2 ⟨Av, cv, rfl, own, bel⟩
  have s1 : w1.heap.size ≤ w2.heap.size := bel.size
  have Oa0_2 := Lib.hid (own_below Oa0_1.out bel (Nat.le_refl _))
  have B2 := Lib.hid (B1.out.trans (bel.mono B1.out.size))
  have Ov_3 := Lib.hid own
  have Pv := Lib.hid (own_in own)
  clear bel own B1 Oa0_1
  clear Oa0_2 Pa0
  go_wp2_with fail
  refine (to_any w2 HX0.out (HA0.out.keep B2.out) hb0).mono ?_
  rintro e w3 ⟨Ay0, cy0, rfl, own, bel⟩
  have s2 : w2.heap.size ≤ w3.heap.size := bel.size
  have Ov_4 := Lib.hid (own_below Ov_3.out bel (Nat.le_refl _))
  have B3 := Lib.hid (B2.out.trans (bel.mono B2.out.size))
  have Oy0_5 := Lib.hid own
  have Py0 := Lib.hid (own_in own)
  clear bel own B2 Ov_3
  go_wp2_with fail
  refine (iPow_any k1 w3 HX0.out (own_rd Oy0_5.out) hb0).mono ?_
  rintro e w4 ⟨Ag, cg, rfl, own, bel⟩
  have s3 : w3.heap.size ≤ w4.heap.size := bel.size
  have Ov_6 := Lib.hid (own_below Ov_4.out bel (Nat.le_refl _))
  have Oy0_7 := Lib.hid (own_below Oy0_5.out bel (Nat.le_refl _))
  have B4 := Lib.hid (B3.out.trans (bel.mono B3.out.size))
  have Og_8 := Lib.hid own
  have Pg := Lib.hid (own_in own)
  clear bel own B3 Ov_4 Oy0_5
  have hlen : (powR x0 k1).length ≤ 1048576 := by have := powR_len x0 k1; rw [HX0.out] at this; omega
  go_wp2_with fail
  refine (eq_same w4 rfl rfl (own_rd Og_8.out) (own_rd Ov_6.out) (by omega)).mono ?_
  rintro e w5 ⟨rfl, bel⟩
  have s4 : w4.heap.size ≤ w5.heap.size := bel.size
  have Ov_9 := Lib.hid (own_below Ov_6.out bel (Nat.le_refl _))
  have Oy0_10 := Lib.hid (own_below Oy0_7.out bel (Nat.le_refl _))
  have Og_11 := Lib.hid (own_below Og_8.out bel (Nat.le_refl _))
  have B5 := Lib.hid (B4.out.trans (bel.mono B4.out.size))
  clear bel B4 Ov_6 Oy0_7 Og_8
  go_wp2_with fail
  refine (to_any w5 HX0.out (HA0.out.keep B5.out) hb0).mono ?_
  rintro e w6 ⟨Az0, cz0, rfl, own, bel⟩
  have s5 : w5.heap.size ≤ w6.heap.size := bel.size
  have Ov_12 := Lib.hid (own_below Ov_9.out bel (Nat.le_refl _))
  have Oy0_13 := Lib.hid (own_below Oy0_10.out bel (Nat.le_refl _))
  have Og_14 := Lib.hid (own_below Og_11.out bel (Nat.le_refl _))
  have B6 := Lib.hid (B5.out.trans (bel.mono B5.out.size))
  have Oz0_15 := Lib.hid own
  have Pz0 := Lib.hid (own_in own)
  clear bel own B5 Ov_9 Oy0_10 Og_11
  go_wp2_with fail
  refine (eq_same w6 HX0.out HX0.out (own_rd Oy0_13.out) (own_rd Oz0_15.out) (by omega)).mono ?_
  rintro e w7 ⟨rfl, bel⟩
  have s6 : w6.heap.size ≤ w7.heap.size := bel.size
  have Ov_16 := Lib.hid (own_below Ov_12.out bel (Nat.le_refl _))
  have Oy0_17 := Lib.hid (own_below Oy0_13.out bel (Nat.le_refl _))
  have Og_18 := Lib.hid (own_below Og_14.out bel (Nat.le_refl _))
  have Oz0_19 := Lib.hid (own_below Oz0_15.out bel (Nat.le_refl _))
  have B7 := Lib.hid (B6.out.trans (bel.mono B6.out.size))
  clear bel B6 Ov_12 Oy0_13 Og_14 Oz0_15
  clear Oz0_19 Pz0
  go_wp2_with fail
  refine (mark_any _ w7 Oy0_17.out (by omega) (by omega) (by omega)).mono ?_
  rintro e w8 ⟨rfl, own, gr⟩
  have tu := Turns.of_grown gr Py0.out
  have s7 : w7.heap.size ≤ w8.heap.size := tu.size
  have Ov_20 := Lib.hid (tu.own Ov_16.out Pv.out (by omega))
  have Og_21 := Lib.hid (tu.own Og_18.out Pg.out (by omega))
  have B8 := Lib.hid (Turns.below B7.out tu B7.out.size (by omega))
  clear Oy0_17 Py0
  clear own gr tu B7 Ov_16 Og_18
  go_wp2_with fail
  refine (eq_same w8 rfl rfl (own_rd Og_21.out) (own_rd Ov_20.out) (by omega)).mono ?_
  rintro e w9 ⟨rfl, bel⟩
  have s8 : w8.heap.size ≤ w9.heap.size := bel.size
  have Ov_22 := Lib.hid (own_below Ov_20.out bel (Nat.le_refl _))
  have Og_23 := Lib.hid (own_below Og_21.out bel (Nat.le_refl _))
  have B9 := Lib.hid (B8.out.trans (bel.mono B8.out.size))
  clear bel B8 Ov_20 Og_21
  go_wp2_with fail
  refine (mark_any 1 w9 Og_23.out hlen (by omega) (by omega)).mono ?_
  rintro e w10 ⟨rfl, own, gr⟩
  have tu := Turns.of_grown gr Pg.out
  have s9 : w9.heap.size ≤ w10.heap.size := tu.size
  have Ov_24 := Lib.hid (tu.own Ov_22.out Pv.out (by omega))
  have B10 := Lib.hid (Turns.below B9.out tu B9.out.size (by omega))
  have Og_25 := Lib.hid own
  clear Og_23
  clear own gr tu B9 Ov_22
  go_wp2_with fail
  refine (held_any 1 w10 (own_rd Og_25.out) hlen (by omega) (by omega)).mono ?_
  rintro e wz ⟨rfl, rfl⟩
  go_wp2_with fail
  refine (to_any w10 HX0.out (HA0.out.keep B10.out) hb0).mono ?_
  rintro e w11 ⟨Ab0, cb0, rfl, own, bel⟩
  have s10 : w10.heap.size ≤ w11.heap.size := bel.size
  have Ov_26 := Lib.hid (own_below Ov_24.out bel (Nat.le_refl _))
  have Og_27 := Lib.hid (own_below Og_25.out bel (Nat.le_refl _))
  have B11 := Lib.hid (B10.out.trans (bel.mono B10.out.size))
  have Ob0_28 := Lib.hid own
  have Pb0 := Lib.hid (own_in own)
  clear bel own B10 Ov_24 Og_25
  go_wp2_with fail
  refine (iPow_any k1 w11 HX0.out (own_rd Ob0_28.out) hb0).mono ?_
  rintro e w12 ⟨Ah, ch, rfl, own, bel⟩
  have s11 : w11.heap.size ≤ w12.heap.size := bel.size
  have Ov_29 := Lib.hid (own_below Ov_26.out bel (Nat.le_refl _))
  have Og_30 := Lib.hid (own_below Og_27.out bel (Nat.le_refl _))
  have Ob0_31 := Lib.hid (own_below Ob0_28.out bel (Nat.le_refl _))
  have B12 := Lib.hid (B11.out.trans (bel.mono B11.out.size))
  have Oh_32 := Lib.hid own
  have Ph := Lib.hid (own_in own)
  clear bel own B11 Ov_26 Og_27 Ob0_28
  clear Ob0_31 Pb0
  go_wp2_with fail
  refine (eq_same w12 rfl rfl (own_rd Oh_32.out) (own_rd Ov_29.out) (by omega)).mono ?_
  rintro e w13 ⟨rfl, bel⟩
  have s12 : w12.heap.size ≤ w13.heap.size := bel.size
  have Ov_33 := Lib.hid (own_below Ov_29.out bel (Nat.le_refl _))
  have Og_34 := Lib.hid (own_below Og_30.out bel (Nat.le_refl _))
  have Oh_35 := Lib.hid (own_below Oh_32.out bel (Nat.le_refl _))
  have B13 := Lib.hid (B12.out.trans (bel.mono B12.out.size))
  clear bel B12 Ov_29 Og_30 Oh_32
  go_wp2_with fail
  refine (held_any 1 w13 (own_rd Og_34.out) hlen (by omega) (by omega)).mono ?_
  rintro e wz ⟨rfl, rfl⟩
  go_wp2
  go_ret
  exact ⟨rfl, B13.out⟩

theorem walk_FnExactPowerPermutation (a0 : Option Addr) (len0 cap0 : Nat) (z0 : List Int) (a1 : Int) (w : World) (w0 : IsRow .i64 w a0 len0 cap0 z0) (w1 : (Lit.int .i64 a1).wf = true) :
    Calls Try.prog 10 #[.slice a0 len0 cap0, .int .i64 a1] w fun e w' => e = .returned (.bool true) ∧ Below w.heap.size w w' := by
  obtain ⟨x0, hx0, ha0, _, hm0⟩ := isRow_rd w0
  exact law_PowerPermutation w hx0 ha0 hm0 w1
end Go.Proofs.Ytbjfeogkdfmjpaa
