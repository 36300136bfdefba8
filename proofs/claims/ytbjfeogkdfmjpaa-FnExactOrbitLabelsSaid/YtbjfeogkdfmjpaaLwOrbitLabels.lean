import Derived.Test.YtbjfeogkdfmjpaaWkZ
import Derived.Test.YtbjfeogkdfmjpaaFrame
import Derived.Test.YtbjfeogkdfmjpaaSSc
namespace Go.Proofs.Ytbjfeogkdfmjpaa
open Go.RowKit

set_option maxHeartbeats 3200000 in
theorem law_OrbitLabels {k0 : Int} {A1 : Option Addr} {c1 : Nat} {x1 : List (List Int)} {n1 : Nat} (w : World) (hw0 : (Lit.int .i64 k0).wf = true) (hx1 : x1.length = n1) (ha1 : RdSS w A1 x1) (hm1 : n1 ≤ maxLen) :
    Calls Try.prog 16 #[.int .i64 k0, .slice A1 n1 c1] w fun e w' => e = .returned (.bool true) ∧ Below w.heap.size w w' := by
  unfold maxLen at hm1
  have HX1 := Lib.hid hx1
  have HA1 := Lib.hid ha1
  clear hx1 ha1
  have HW0 := Lib.hid hw0
  clear hw0
  have B0 := Lib.hid (Below.refl w.heap.size w)
  go_enter Try.func16, Try.ntmps16
  go_wp2_with fail
  refine (sz_any w HX1.out HA1.out hm1).mono ?_
  rintro e wz ⟨r1, rfl, g01, g11, g21, rfl⟩
  by_cases hneg1 : r1 < 0
  · clear g21
    go_wp2
    go_ret
    exact ⟨rfl, B0.out⟩
  have hz1 := g21 (by omega)
  have hb1 : n1 ≤ 1048576 := by have := hz1.1; rw [HX1.out] at this; omega
  have HR1 := Lib.hid hz1.2
  clear g21 hz1
  go_wp2_with fail
  refine (toSS_any w HX1.out (HA1.out.keep B0.out) hb1 HR1.out).mono ?_
  rintro e w1 ⟨Aa1, ca1, rfl, own, bel⟩
  have s0 : w.heap.size ≤ w1.heap.size := bel.size
  have B1 := Lib.hid (B0.out.trans (bel.mono B0.out.size))
  have Oa1_1 := Lib.hid own
  clear bel own B0 
  go_wp2_with fail
  refine (sLab_any k0 w1 HX1.out (ownSS_rd Oa1_1.out) hb1 HR1.out).mono ?_
  rintro e w2 ⟨Av, cv, rfl, own, bel⟩
  have s1 : w1.heap.size ≤ w2.heap.size := bel.size
  have Oa1_2 := Lib.hid (ownSS_below Oa1_1.out bel (Nat.le_refl _))
  have B2 := Lib.hid (B1.out.trans (bel.mono B1.out.size))
  have Ov_3 := Lib.hid own
  have Pv := Lib.hid (own_in own)
  clear bel own B1 Oa1_1
  clear Oa1_2
  go_wp2_with fail
  refine (toSS_any w2 HX1.out (HA1.out.keep B2.out) hb1 HR1.out).mono ?_
  rintro e w3 ⟨Ay1, cy1, rfl, own, bel⟩
  have s2 : w2.heap.size ≤ w3.heap.size := bel.size
  have Ov_4 := Lib.hid (own_below Ov_3.out bel (Nat.le_refl _))
  have B3 := Lib.hid (B2.out.trans (bel.mono B2.out.size))
  have Oy1_5 := Lib.hid own
  clear bel own B2 Ov_3
  go_wp2_with fail
  refine (iLab_any k0 w3 HX1.out (ownSS_rd Oy1_5.out) hb1 HR1.out).mono ?_
  rintro e w4 ⟨Ag, cg, rfl, own, bel⟩
  have s3 : w3.heap.size ≤ w4.heap.size := bel.size
  have Ov_6 := Lib.hid (own_below Ov_4.out bel (Nat.le_refl _))
  have Oy1_7 := Lib.hid (ownSS_below Oy1_5.out bel (Nat.le_refl _))
  have B4 := Lib.hid (B3.out.trans (bel.mono B3.out.size))
  have Og_8 := Lib.hid own
  have Pg := Lib.hid (own_in own)
  clear bel own B3 Ov_4 Oy1_5
  have hlen : (labR k0 x1).length ≤ 1048576 := by have := labR_len k0 x1; omega
  go_wp2_with fail
  refine (eq_same w4 rfl rfl (own_rd Og_8.out) (own_rd Ov_6.out) (by omega)).mono ?_
  rintro e w5 ⟨rfl, bel⟩
  have s4 : w4.heap.size ≤ w5.heap.size := bel.size
  have Ov_9 := Lib.hid (own_below Ov_6.out bel (Nat.le_refl _))
  have Oy1_10 := Lib.hid (ownSS_below Oy1_7.out bel (Nat.le_refl _))
  have Og_11 := Lib.hid (own_below Og_8.out bel (Nat.le_refl _))
  have B5 := Lib.hid (B4.out.trans (bel.mono B4.out.size))
  clear bel B4 Ov_6 Oy1_7 Og_8
  go_wp2_with fail
  refine (toSS_any w5 HX1.out (HA1.out.keep B5.out) hb1 HR1.out).mono ?_
  rintro e w6 ⟨Az1, cz1, rfl, own, bel⟩
  have s5 : w5.heap.size ≤ w6.heap.size := bel.size
  have Ov_12 := Lib.hid (own_below Ov_9.out bel (Nat.le_refl _))
  have Oy1_13 := Lib.hid (ownSS_below Oy1_10.out bel (Nat.le_refl _))
  have Og_14 := Lib.hid (own_below Og_11.out bel (Nat.le_refl _))
  have B6 := Lib.hid (B5.out.trans (bel.mono B5.out.size))
  have Oz1_15 := Lib.hid own
  clear bel own B5 Ov_9 Oy1_10 Og_11
  go_wp2_with fail
  refine (eqSS_same w6 HX1.out HX1.out (ownSS_rd Oy1_13.out) (ownSS_rd Oz1_15.out) (by omega)).mono ?_
  rintro e w7 ⟨rfl, bel⟩
  have s6 : w6.heap.size ≤ w7.heap.size := bel.size
  have Ov_16 := Lib.hid (own_below Ov_12.out bel (Nat.le_refl _))
  have Oy1_17 := Lib.hid (ownSS_below Oy1_13.out bel (Nat.le_refl _))
  have Og_18 := Lib.hid (own_below Og_14.out bel (Nat.le_refl _))
  have Oz1_19 := Lib.hid (ownSS_below Oz1_15.out bel (Nat.le_refl _))
  have B7 := Lib.hid (B6.out.trans (bel.mono B6.out.size))
  clear bel B6 Ov_12 Oy1_13 Og_14 Oz1_15
  clear Oz1_19
  have ht1 := totalL_le HR1.out x1.length
  rw [List.take_length, HX1.out] at ht1
  go_wp2_with fail
  refine (markSS_any _ w7 Oy1_17.out (by decide) (by omega) HR1.out (by omega) (by omega)).mono ?_
  rintro e w8 ⟨rfl, own, tu⟩
  have s7 : w7.heap.size ≤ w8.heap.size := tu.size
  have Ov_20 := Lib.hid (tu.own Ov_16.out Pv.out (by omega))
  have Og_21 := Lib.hid (tu.own Og_18.out Pg.out (by omega))
  have B8 := Lib.hid (Turns.below B7.out tu B7.out.size (by omega))
  clear Oy1_17
  clear own tu B7 Ov_16 Og_18
  go_wp2_with fail
  refine (eq_same w8 rfl rfl (own_rd Og_21.out) (own_rd Ov_20.out) (by omega)).mono ?_
  rintro e w9 ⟨rfl, bel⟩
  have s8 : w8.heap.size ≤ w9.heap.size := bel.size
  have Ov_22 := Lib.hid (own_below Ov_20.out bel (Nat.le_refl _))
  have Og_23 := Lib.hid (own_below Og_21.out bel (Nat.le_refl _))
  have B9 := Lib.hid (B8.out.trans (bel.mono B8.out.size))
  clear bel B8 Ov_20 Og_21
  go_wp2_with fail
  refine (mark_any 1 w9 Og_23.out hlen (by omega) (by omega)).mono ?_
  rintro e w10 ⟨rfl, own, gr⟩
  have tu := Turns.of_grown gr Pg.out
  have s9 : w9.heap.size ≤ w10.heap.size := tu.size
  have Ov_24 := Lib.hid (tu.own Ov_22.out Pv.out (by omega))
  have B10 := Lib.hid (Turns.below B9.out tu B9.out.size (by omega))
  have Og_25 := Lib.hid own
  clear Og_23
  clear own gr tu B9 Ov_22
  go_wp2_with fail
  refine (held_any 1 w10 (own_rd Og_25.out) hlen (by omega) (by omega)).mono ?_
  rintro e wz ⟨rfl, rfl⟩
  go_wp2_with fail
  refine (toSS_any w10 HX1.out (HA1.out.keep B10.out) hb1 HR1.out).mono ?_
  rintro e w11 ⟨Ab1, cb1, rfl, own, bel⟩
  have s10 : w10.heap.size ≤ w11.heap.size := bel.size
  have Ov_26 := Lib.hid (own_below Ov_24.out bel (Nat.le_refl _))
  have Og_27 := Lib.hid (own_below Og_25.out bel (Nat.le_refl _))
  have B11 := Lib.hid (B10.out.trans (bel.mono B10.out.size))
  have Ob1_28 := Lib.hid own
  clear bel own B10 Ov_24 Og_25
  go_wp2_with fail
  refine (iLab_any k0 w11 HX1.out (ownSS_rd Ob1_28.out) hb1 HR1.out).mono ?_
  rintro e w12 ⟨Ah, ch, rfl, own, bel⟩
  have s11 : w11.heap.size ≤ w12.heap.size := bel.size
  have Ov_29 := Lib.hid (own_below Ov_26.out bel (Nat.le_refl _))
  have Og_30 := Lib.hid (own_below Og_27.out bel (Nat.le_refl _))
  have Ob1_31 := Lib.hid (ownSS_below Ob1_28.out bel (Nat.le_refl _))
  have B12 := Lib.hid (B11.out.trans (bel.mono B11.out.size))
  have Oh_32 := Lib.hid own
  have Ph := Lib.hid (own_in own)
  clear bel own B11 Ov_26 Og_27 Ob1_28
  clear Ob1_31
  go_wp2_with fail
  refine (eq_same w12 rfl rfl (own_rd Oh_32.out) (own_rd Ov_29.out) (by omega)).mono ?_
  rintro e w13 ⟨rfl, bel⟩
  have s12 : w12.heap.size ≤ w13.heap.size := bel.size
  have Ov_33 := Lib.hid (own_below Ov_29.out bel (Nat.le_refl _))
  have Og_34 := Lib.hid (own_below Og_30.out bel (Nat.le_refl _))
  have Oh_35 := Lib.hid (own_below Oh_32.out bel (Nat.le_refl _))
  have B13 := Lib.hid (B12.out.trans (bel.mono B12.out.size))
  clear bel B12 Ov_29 Og_30 Oh_32
  go_wp2_with fail
  refine (held_any 1 w13 (own_rd Og_34.out) hlen (by omega) (by omega)).mono ?_
  rintro e wz ⟨rfl, rfl⟩
  go_wp2
  go_ret
  exact ⟨rfl, B13.out⟩

theorem walk_FnExactOrbitLabels (a0 : Int) (a1 : Option Addr) (len1 cap1 : Nat) (z1 : List (List Int)) (w : World) (w0 : (Lit.int .i64 a0).wf = true) (w1 : IsRows w a1 len1 z1) :
    Calls Try.prog 16 #[.int .i64 a0, .slice a1 len1 cap1] w fun e w' => e = .returned (.bool true) ∧ Below w.heap.size w w' := by
  obtain ⟨hx1, ha1, hm1⟩ := w1
  exact law_OrbitLabels w w0 hx1 ha1 hm1
end Go.Proofs.Ytbjfeogkdfmjpaa
