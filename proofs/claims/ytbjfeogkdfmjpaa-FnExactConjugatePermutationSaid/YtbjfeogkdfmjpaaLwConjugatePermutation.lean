import Derived.Test.YtbjfeogkdfmjpaaWkI
import Derived.Test.YtbjfeogkdfmjpaaFrame
namespace Go.Proofs.Ytbjfeogkdfmjpaa
open Go.RowKit

set_option maxHeartbeats 1600000 in
theorem law_ConjugatePermutation {A0 : Option Addr} {c0 : Nat} {x0 : List Int} {n0 : Nat} {A1 : Option Addr} {c1 : Nat} {x1 : List Int} {n1 : Nat} (w : World) (hx0 : x0.length = n0) (ha0 : Rd w A0 (ints x0)) (hm0 : n0 ≤ maxLen) (hx1 : x1.length = n1) (ha1 : Rd w A1 (ints x1)) (hm1 : n1 ≤ maxLen) :
    Calls Try.prog 13 #[.slice A0 n0 c0, .slice A1 n1 c1] w fun e w' => e = .returned (.bool true) ∧ Below w.heap.size w w' := by
  unfold maxLen at hm0
  have HX0 := Lib.hid hx0
  have HA0 := Lib.hid ha0
  clear hx0 ha0
  unfold maxLen at hm1
  have HX1 := Lib.hid hx1
  have HA1 := Lib.hid ha1
  clear hx1 ha1
  by_cases hn0 : 1048576 < n0
  · go_enter Try.func13, Try.ntmps13
    go_wp2
    go_ret
    exact ⟨rfl, Below.refl _ _⟩
  have hb0 : n0 ≤ 1048576 := by omega
  clear hn0
  by_cases hn1 : 1048576 < n1
  · go_enter Try.func13, Try.ntmps13
    go_wp2
    go_ret
    exact ⟨rfl, Below.refl _ _⟩
  have hb1 : n1 ≤ 1048576 := by omega
  clear hn1
  have B0 := Lib.hid (Below.refl w.heap.size w)
  go_enter Try.func13, Try.ntmps13
  go_wp2_with fail
  refine (to_any w HX0.out (HA0.out.keep B0.out) hb0).mono ?_
  rintro e w1 ⟨Aa0, ca0, rfl, own, bel⟩
  have s0 : w.heap.size ≤ w1.heap.size := bel.size
  have B1 := Lib.hid (B0.out.trans (bel.mono B0.out.size))
  have Oa0_1 := Lib.hid own
  have Pa0 := Lib.hid (own_in own)
  clear bel own B0 
  go_wp2_with fail
  refine (to_any w1 HX1.out (HA1.out.keep B1.out) hb1).mono ?_
  rintro e w2 ⟨Aa1, ca1, rfl, own, bel⟩
  have s1 : w1.heap.size ≤ w2.heap.size := bel.size
  have Oa0_2 := Lib.hid (own_below Oa0_1.out bel (Nat.le_refl _))
  have B2 := Lib.hid (B1.out.trans (bel.mono B1.out.size))
  have Oa1_3 := Lib.hid own
  have Pa1 := Lib.hid (own_in own)
  clear bel own B1 Oa0_1
  go_wp2_with fail
  refine (sConj_any w2 HX0.out (own_rd Oa0_2.out) hb0 HX1.out (own_rd Oa1_3.out) hb1).mono ?_
  rintro e w3 ⟨Av, cv, rfl, own, bel⟩
  have s2 : w2.heap.size ≤ w3.heap.size := bel.size
  have Oa0_4 := Lib.hid (own_below Oa0_2.out bel (Nat.le_refl _))
  have Oa1_5 := Lib.hid (own_below Oa1_3.out bel (Nat.le_refl _))
  have B3 := Lib.hid (B2.out.trans (bel.mono B2.out.size))
  have Ov_6 := Lib.hid own
  have Pv := Lib.hid (own_in own)
  clear bel own B2 Oa0_2 Oa1_3
  clear Oa0_4 Pa0
  clear Oa1_5 Pa1
  go_wp2_with fail
  refine (to_any w3 HX0.out (HA0.out.keep B3.out) hb0).mono ?_
  rintro e w4 ⟨Ay0, cy0, rfl, own, bel⟩
  have s3 : w3.heap.size ≤ w4.heap.size := bel.size
  have Ov_7 := Lib.hid (own_below Ov_6.out bel (Nat.le_refl _))
  have B4 := Lib.hid (B3.out.trans (bel.mono B3.out.size))
  have Oy0_8 := Lib.hid own
  have Py0 := Lib.hid (own_in own)
  clear bel own B3 Ov_6
  go_wp2_with fail
  refine (to_any w4 HX1.out (HA1.out.keep B4.out) hb1).mono ?_
  rintro e w5 ⟨Ay1, cy1, rfl, own, bel⟩
  have s4 : w4.heap.size ≤ w5.heap.size := bel.size
  have Ov_9 := Lib.hid (own_below Ov_7.out bel (Nat.le_refl _))
  have Oy0_10 := Lib.hid (own_below Oy0_8.out bel (Nat.le_refl _))
  have B5 := Lib.hid (B4.out.trans (bel.mono B4.out.size))
  have Oy1_11 := Lib.hid own
  have Py1 := Lib.hid (own_in own)
  clear bel own B4 Ov_7 Oy0_8
  go_wp2_with fail
  refine (iConj_any w5 HX0.out (own_rd Oy0_10.out) hb0 HX1.out (own_rd Oy1_11.out) hb1).mono ?_
  rintro e w6 ⟨Ag, cg, rfl, own, bel⟩
  have s5 : w5.heap.size ≤ w6.heap.size := bel.size
  have Ov_12 := Lib.hid (own_below Ov_9.out bel (Nat.le_refl _))
  have Oy0_13 := Lib.hid (own_below Oy0_10.out bel (Nat.le_refl _))
  have Oy1_14 := Lib.hid (own_below Oy1_11.out bel (Nat.le_refl _))
  have B6 := Lib.hid (B5.out.trans (bel.mono B5.out.size))
  have Og_15 := Lib.hid own
  have Pg := Lib.hid (own_in own)
  clear bel own B5 Ov_9 Oy0_10 Oy1_11
  have hlen : (conjR x0 x1).length ≤ 1048576 := by have := conjR_len x0 x1; rw [HX1.out] at this; omega
  go_wp2_with fail
  refine (eq_same w6 rfl rfl (own_rd Og_15.out) (own_rd Ov_12.out) (by omega)).mono ?_
  rintro e w7 ⟨rfl, bel⟩
  have s6 : w6.heap.size ≤ w7.heap.size := bel.size
  have Ov_16 := Lib.hid (own_below Ov_12.out bel (Nat.le_refl _))
  have Oy0_17 := Lib.hid (own_below Oy0_13.out bel (Nat.le_refl _))
  have Oy1_18 := Lib.hid (own_below Oy1_14.out bel (Nat.le_refl _))
  have Og_19 := Lib.hid (own_below Og_15.out bel (Nat.le_refl _))
  have B7 := Lib.hid (B6.out.trans (bel.mono B6.out.size))
  clear bel B6 Ov_12 Oy0_13 Oy1_14 Og_15
  go_wp2_with fail
  refine (to_any w7 HX0.out (HA0.out.keep B7.out) hb0).mono ?_
  rintro e w8 ⟨Az0, cz0, rfl, own, bel⟩
  have s7 : w7.heap.size ≤ w8.heap.size := bel.size
  have Ov_20 := Lib.hid (own_below Ov_16.out bel (Nat.le_refl _))
  have Oy0_21 := Lib.hid (own_below Oy0_17.out bel (Nat.le_refl _))
  have Oy1_22 := Lib.hid (own_below Oy1_18.out bel (Nat.le_refl _))
  have Og_23 := Lib.hid (own_below Og_19.out bel (Nat.le_refl _))
  have B8 := Lib.hid (B7.out.trans (bel.mono B7.out.size))
  have Oz0_24 := Lib.hid own
  have Pz0 := Lib.hid (own_in own)
  clear bel own B7 Ov_16 Oy0_17 Oy1_18 Og_19
  go_wp2_with fail
  refine (eq_same w8 HX0.out HX0.out (own_rd Oy0_21.out) (own_rd Oz0_24.out) (by omega)).mono ?_
  rintro e w9 ⟨rfl, bel⟩
  have s8 : w8.heap.size ≤ w9.heap.size := bel.size
  have Ov_25 := Lib.hid (own_below Ov_20.out bel (Nat.le_refl _))
  have Oy0_26 := Lib.hid (own_below Oy0_21.out bel (Nat.le_refl _))
  have Oy1_27 := Lib.hid (own_below Oy1_22.out bel (Nat.le_refl _))
  have Og_28 := Lib.hid (own_below Og_23.out bel (Nat.le_refl _))
  have Oz0_29 := Lib.hid (own_below Oz0_24.out bel (Nat.le_refl _))
  have B9 := Lib.hid (B8.out.trans (bel.mono B8.out.size))
  clear bel B8 Ov_20 Oy0_21 Oy1_22 Og_23 Oz0_24
  clear Oz0_29 Pz0
  go_wp2_with fail
  refine (to_any w9 HX1.out (HA1.out.keep B9.out) hb1).mono ?_
  rintro e w10 ⟨Az1, cz1, rfl, own, bel⟩
  have s9 : w9.heap.size ≤ w10.heap.size := bel.size
  have Ov_30 := Lib.hid (own_below Ov_25.out bel (Nat.le_refl _))
  have Oy0_31 := Lib.hid (own_below Oy0_26.out bel (Nat.le_refl _))
  have Oy1_32 := Lib.hid (own_below Oy1_27.out bel (Nat.le_refl _))
  have Og_33 := Lib.hid (own_below Og_28.out bel (Nat.le_refl _))
  have B10 := Lib.hid (B9.out.trans (bel.mono B9.out.size))
  have Oz1_34 := Lib.hid own
  have Pz1 := Lib.hid (own_in own)
  clear bel own B9 Ov_25 Oy0_26 Oy1_27 Og_28
  go_wp2_with fail
  refine (eq_same w10 HX1.out HX1.out (own_rd Oy1_32.out) (own_rd Oz1_34.out) (by omega)).mono ?_
  rintro e w11 ⟨rfl, bel⟩
  have s10 : w10.heap.size ≤ w11.heap.size := bel.size
  have Ov_35 := Lib.hid (own_below Ov_30.out bel (Nat.le_refl _))
  have Oy0_36 := Lib.hid (own_below Oy0_31.out bel (Nat.le_refl _))
  have Oy1_37 := Lib.hid (own_below Oy1_32.out bel (Nat.le_refl _))
  have Og_38 := Lib.hid (own_below Og_33.out bel (Nat.le_refl _))
  have Oz1_39 := Lib.hid (own_below Oz1_34.out bel (Nat.le_refl _))
  have B11 := Lib.hid (B10.out.trans (bel.mono B10.out.size))
  clear bel B10 Ov_30 Oy0_31 Oy1_32 Og_33 Oz1_34
  clear Oz1_39 Pz1
  go_wp2_with fail
  refine (mark_any _ w11 Oy0_36.out (by omega) (by omega) (by omega)).mono ?_
  rintro e w12 ⟨rfl, own, gr⟩
  have s11 : w11.heap.size ≤ w12.heap.size := gr.size
  have Ov_40 := Lib.hid (own_apart Ov_35.out gr Pv.out Py0.out (by omega))
  have Oy1_41 := Lib.hid (own_apart Oy1_37.out gr Py1.out Py0.out (by omega))
  have Og_42 := Lib.hid (own_apart Og_38.out gr Pg.out Py0.out (by omega))
  have B12 := Lib.hid (below_mark B11.out gr Py0.out B11.out.size (by omega))
  clear own gr B11 Oy0_36 Py0 Ov_35 Oy1_37 Og_38
  go_wp2_with fail
  refine (mark_any _ w12 Oy1_41.out (by omega) (by omega) (by omega)).mono ?_
  rintro e w13 ⟨rfl, own, gr⟩
  have s12 : w12.heap.size ≤ w13.heap.size := gr.size
  have Ov_43 := Lib.hid (own_apart Ov_40.out gr Pv.out Py1.out (by omega))
  have Og_44 := Lib.hid (own_apart Og_42.out gr Pg.out Py1.out (by omega))
  have B13 := Lib.hid (below_mark B12.out gr Py1.out B12.out.size (by omega))
  clear own gr B12 Oy1_41 Py1 Ov_40 Og_42
  go_wp2_with fail
  refine (eq_same w13 rfl rfl (own_rd Og_44.out) (own_rd Ov_43.out) (by omega)).mono ?_
  rintro e w14 ⟨rfl, bel⟩
  have s13 : w13.heap.size ≤ w14.heap.size := bel.size
  have Ov_45 := Lib.hid (own_below Ov_43.out bel (Nat.le_refl _))
  have Og_46 := Lib.hid (own_below Og_44.out bel (Nat.le_refl _))
  have B14 := Lib.hid (B13.out.trans (bel.mono B13.out.size))
  clear bel B13 Ov_43 Og_44
  go_wp2_with fail
  refine (mark_any 1 w14 Og_46.out (hlen) (by omega) (by omega)).mono ?_
  rintro e w15 ⟨rfl, own, gr⟩
  have s14 : w14.heap.size ≤ w15.heap.size := gr.size
  have Ov_47 := Lib.hid (own_apart Ov_45.out gr Pv.out Pg.out (by omega))
  have B15 := Lib.hid (below_mark B14.out gr Pg.out B14.out.size (by omega))
  have Og_48 := Lib.hid own
  clear own gr B14 Og_46 Ov_45
  go_wp2_with fail
  refine (held_any 1 w15 (own_rd Og_48.out) (hlen) (by omega) (by omega)).mono ?_
  rintro e wz ⟨rfl, rfl⟩
  go_wp2_with fail
  refine (to_any w15 HX0.out (HA0.out.keep B15.out) hb0).mono ?_
  rintro e w16 ⟨Ab0, cb0, rfl, own, bel⟩
  have s15 : w15.heap.size ≤ w16.heap.size := bel.size
  have Ov_49 := Lib.hid (own_below Ov_47.out bel (Nat.le_refl _))
  have Og_50 := Lib.hid (own_below Og_48.out bel (Nat.le_refl _))
  have B16 := Lib.hid (B15.out.trans (bel.mono B15.out.size))
  have Ob0_51 := Lib.hid own
  have Pb0 := Lib.hid (own_in own)
  clear bel own B15 Ov_47 Og_48
  go_wp2_with fail
  refine (to_any w16 HX1.out (HA1.out.keep B16.out) hb1).mono ?_
  rintro e w17 ⟨Ab1, cb1, rfl, own, bel⟩
  have s16 : w16.heap.size ≤ w17.heap.size := bel.size
  have Ov_52 := Lib.hid (own_below Ov_49.out bel (Nat.le_refl _))
  have Og_53 := Lib.hid (own_below Og_50.out bel (Nat.le_refl _))
  have Ob0_54 := Lib.hid (own_below Ob0_51.out bel (Nat.le_refl _))
  have B17 := Lib.hid (B16.out.trans (bel.mono B16.out.size))
  have Ob1_55 := Lib.hid own
  have Pb1 := Lib.hid (own_in own)
  clear bel own B16 Ov_49 Og_50 Ob0_51
  go_wp2_with fail
  refine (iConj_any w17 HX0.out (own_rd Ob0_54.out) hb0 HX1.out (own_rd Ob1_55.out) hb1).mono ?_
  rintro e w18 ⟨Ah, ch, rfl, own, bel⟩
  have s17 : w17.heap.size ≤ w18.heap.size := bel.size
  have Ov_56 := Lib.hid (own_below Ov_52.out bel (Nat.le_refl _))
  have Og_57 := Lib.hid (own_below Og_53.out bel (Nat.le_refl _))
  have Ob0_58 := Lib.hid (own_below Ob0_54.out bel (Nat.le_refl _))
  have Ob1_59 := Lib.hid (own_below Ob1_55.out bel (Nat.le_refl _))
  have B18 := Lib.hid (B17.out.trans (bel.mono B17.out.size))
  have Oh_60 := Lib.hid own
  have Ph := Lib.hid (own_in own)
  clear bel own B17 Ov_52 Og_53 Ob0_54 Ob1_55
  clear Ob0_58 Pb0
  clear Ob1_59 Pb1
  go_wp2_with fail
  refine (eq_same w18 rfl rfl (own_rd Oh_60.out) (own_rd Ov_56.out) (by omega)).mono ?_
  rintro e w19 ⟨rfl, bel⟩
  have s18 : w18.heap.size ≤ w19.heap.size := bel.size
  have Ov_61 := Lib.hid (own_below Ov_56.out bel (Nat.le_refl _))
  have Og_62 := Lib.hid (own_below Og_57.out bel (Nat.le_refl _))
  have Oh_63 := Lib.hid (own_below Oh_60.out bel (Nat.le_refl _))
  have B19 := Lib.hid (B18.out.trans (bel.mono B18.out.size))
  clear bel B18 Ov_56 Og_57 Oh_60
  go_wp2_with fail
  refine (held_any 1 w19 (own_rd Og_62.out) (hlen) (by omega) (by omega)).mono ?_
  rintro e wz ⟨rfl, rfl⟩
  go_wp2
  go_ret
  exact ⟨rfl, B19.out⟩

theorem walk_FnExactConjugatePermutation (a0 : Option Addr) (len0 cap0 : Nat) (z0 : List Int) (a1 : Option Addr) (len1 cap1 : Nat) (z1 : List Int) (w : World) (w0 : IsRow .i64 w a0 len0 cap0 z0) (w1 : IsRow .i64 w a1 len1 cap1 z1) :
    Calls Try.prog 13 #[.slice a0 len0 cap0, .slice a1 len1 cap1] w fun e w' => e = .returned (.bool true) ∧ Below w.heap.size w w' := by
  obtain ⟨x0, hx0, ha0, _, hm0⟩ := isRow_rd w0
  obtain ⟨x1, hx1, ha1, _, hm1⟩ := isRow_rd w1
  exact law_ConjugatePermutation w hx0 ha0 hm0 hx1 ha1 hm1
end Go.Proofs.Ytbjfeogkdfmjpaa
