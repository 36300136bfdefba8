import Derived.Test.YtbjfeogkdfmjpaaWkK
import Derived.Test.YtbjfeogkdfmjpaaFrame
import Derived.Test.YtbjfeogkdfmjpaaSSc
namespace Go.Proofs.Ytbjfeogkdfmjpaa
open Go.RowKit

set_option maxHeartbeats 3200000 in
theorem law_ApplyWord {k0 : Int} {A1 : Option Addr} {c1 : Nat} {x1 : List (List Int)} {n1 : Nat} {A2 : Option Addr} {c2 : Nat} {x2 : List Int} {n2 : Nat} {k3 : Int} (w : World) (hw0 : (Lit.int .i64 k0).wf = true) (hx1 : x1.length = n1) (ha1 : RdSS w A1 x1) (hm1 : n1 ≤ maxLen) (hx2 : x2.length = n2) (ha2 : Rd w A2 (ints x2)) (hm2 : n2 ≤ maxLen) (hw3 : (Lit.int .i64 k3).wf = true) :
    Calls Try.prog 15 #[.int .i64 k0, .slice A1 n1 c1, .slice A2 n2 c2, .int .i64 k3] w fun e w' => e = .returned (.bool true) ∧ Below w.heap.size w w' := by
  unfold maxLen at hm1
  have HX1 := Lib.hid hx1
  have HA1 := Lib.hid ha1
  clear hx1 ha1
  unfold maxLen at hm2
  have HX2 := Lib.hid hx2
  have HA2 := Lib.hid ha2
  clear hx2 ha2
  have HW0 := Lib.hid hw0
  clear hw0
  have HW3 := Lib.hid hw3
  clear hw3
  by_cases hn2 : 1048576 < n2
  · go_enter Try.func15, Try.ntmps15
    go_wp2
    go_ret
    exact ⟨rfl, Below.refl _ _⟩
  have hb2 : n2 ≤ 1048576 := by omega
  clear hn2
  have B0 := Lib.hid (Below.refl w.heap.size w)
  go_enter Try.func15, Try.ntmps15
  go_wp2_with fail
  refine (sz_any w HX1.out HA1.out hm1).mono ?_
  rintro e wz ⟨r1, rfl, g01, g11, g21, rfl⟩
  by_cases hneg1 : r1 < 0
  · clear g21
    go_wp2
    go_ret
    exact ⟨rfl, B0.out⟩
  have hz1 := g21 (by omega)
  have hb1 : n1 ≤ 1048576 := by have := hz1.1; rw [HX1.out] at this; omega
  have HR1 := Lib.hid hz1.2
  clear g21 hz1
  go_wp2_with fail
  refine (toSS_any w HX1.out (HA1.out.keep B0.out) hb1 HR1.out).mono ?_
  rintro e w1 ⟨Aa1, ca1, rfl, own, bel⟩
  have s0 : w.heap.size ≤ w1.heap.size := bel.size
  have B1 := Lib.hid (B0.out.trans (bel.mono B0.out.size))
  have Oa1_1 := Lib.hid own
  clear bel own B0 
  go_wp2_with fail
  refine (to_any w1 HX2.out (HA2.out.keep B1.out) hb2).mono ?_
  rintro e w2 ⟨Aa2, ca2, rfl, own, bel⟩
  have s1 : w1.heap.size ≤ w2.heap.size := bel.size
  have Oa1_2 := Lib.hid (ownSS_below Oa1_1.out bel (Nat.le_refl _))
  have B2 := Lib.hid (B1.out.trans (bel.mono B1.out.size))
  have Oa2_3 := Lib.hid own
  have Pa2 := Lib.hid (own_in own)
  clear bel own B1 Oa1_1
  go_wp2_with fail
  refine (sapp_any k0 k3 w2 HX1.out (ownSS_rd Oa1_2.out) hb1 HR1.out HX2.out (own_rd Oa2_3.out) hb2).mono ?_
  rintro e w3 ⟨rfl, bel⟩
  have s2 : w2.heap.size ≤ w3.heap.size := bel.size
  have Oa1_4 := Lib.hid (ownSS_below Oa1_2.out bel (Nat.le_refl _))
  have Oa2_5 := Lib.hid (own_below Oa2_3.out bel (Nat.le_refl _))
  have B3 := Lib.hid (B2.out.trans (bel.mono B2.out.size))
  clear bel B2 Oa1_2 Oa2_3
  clear Oa1_4
  clear Oa2_5 Pa2
  go_wp2_with fail
  refine (toSS_any w3 HX1.out (HA1.out.keep B3.out) hb1 HR1.out).mono ?_
  rintro e w4 ⟨Ay1, cy1, rfl, own, bel⟩
  have s3 : w3.heap.size ≤ w4.heap.size := bel.size
  have B4 := Lib.hid (B3.out.trans (bel.mono B3.out.size))
  have Oy1_6 := Lib.hid own
  clear bel own B3 
  go_wp2_with fail
  refine (to_any w4 HX2.out (HA2.out.keep B4.out) hb2).mono ?_
  rintro e w5 ⟨Ay2, cy2, rfl, own, bel⟩
  have s4 : w4.heap.size ≤ w5.heap.size := bel.size
  have Oy1_7 := Lib.hid (ownSS_below Oy1_6.out bel (Nat.le_refl _))
  have B5 := Lib.hid (B4.out.trans (bel.mono B4.out.size))
  have Oy2_8 := Lib.hid own
  have Py2 := Lib.hid (own_in own)
  clear bel own B4 Oy1_6
  go_wp2_with fail
  refine (iapp_any k0 k3 w5 HX1.out (ownSS_rd Oy1_7.out) hb1 HR1.out HX2.out (own_rd Oy2_8.out) hb2).mono ?_
  rintro e w6 ⟨rfl, bel⟩
  have s5 : w5.heap.size ≤ w6.heap.size := bel.size
  have Oy1_9 := Lib.hid (ownSS_below Oy1_7.out bel (Nat.le_refl _))
  have Oy2_10 := Lib.hid (own_below Oy2_8.out bel (Nat.le_refl _))
  have B6 := Lib.hid (B5.out.trans (bel.mono B5.out.size))
  clear bel B5 Oy1_7 Oy2_8
  go_wp2_with fail
  refine (toSS_any w6 HX1.out (HA1.out.keep B6.out) hb1 HR1.out).mono ?_
  rintro e w7 ⟨Az1, cz1, rfl, own, bel⟩
  have s6 : w6.heap.size ≤ w7.heap.size := bel.size
  have Oy1_11 := Lib.hid (ownSS_below Oy1_9.out bel (Nat.le_refl _))
  have Oy2_12 := Lib.hid (own_below Oy2_10.out bel (Nat.le_refl _))
  have B7 := Lib.hid (B6.out.trans (bel.mono B6.out.size))
  have Oz1_13 := Lib.hid own
  clear bel own B6 Oy1_9 Oy2_10
  go_wp2_with fail
  refine (eqSS_same w7 HX1.out HX1.out (ownSS_rd Oy1_11.out) (ownSS_rd Oz1_13.out) (by omega)).mono ?_
  rintro e w8 ⟨rfl, bel⟩
  have s7 : w7.heap.size ≤ w8.heap.size := bel.size
  have Oy1_14 := Lib.hid (ownSS_below Oy1_11.out bel (Nat.le_refl _))
  have Oy2_15 := Lib.hid (own_below Oy2_12.out bel (Nat.le_refl _))
  have Oz1_16 := Lib.hid (ownSS_below Oz1_13.out bel (Nat.le_refl _))
  have B8 := Lib.hid (B7.out.trans (bel.mono B7.out.size))
  clear bel B7 Oy1_11 Oy2_12 Oz1_13
  clear Oz1_16
  go_wp2_with fail
  refine (to_any w8 HX2.out (HA2.out.keep B8.out) hb2).mono ?_
  rintro e w9 ⟨Az2, cz2, rfl, own, bel⟩
  have s8 : w8.heap.size ≤ w9.heap.size := bel.size
  have Oy1_17 := Lib.hid (ownSS_below Oy1_14.out bel (Nat.le_refl _))
  have Oy2_18 := Lib.hid (own_below Oy2_15.out bel (Nat.le_refl _))
  have B9 := Lib.hid (B8.out.trans (bel.mono B8.out.size))
  have Oz2_19 := Lib.hid own
  have Pz2 := Lib.hid (own_in own)
  clear bel own B8 Oy1_14 Oy2_15
  go_wp2_with fail
  refine (eq_same w9 HX2.out HX2.out (own_rd Oy2_18.out) (own_rd Oz2_19.out) (by omega)).mono ?_
  rintro e w10 ⟨rfl, bel⟩
  have s9 : w9.heap.size ≤ w10.heap.size := bel.size
  have Oy1_20 := Lib.hid (ownSS_below Oy1_17.out bel (Nat.le_refl _))
  have Oy2_21 := Lib.hid (own_below Oy2_18.out bel (Nat.le_refl _))
  have Oz2_22 := Lib.hid (own_below Oz2_19.out bel (Nat.le_refl _))
  have B10 := Lib.hid (B9.out.trans (bel.mono B9.out.size))
  clear bel B9 Oy1_17 Oy2_18 Oz2_19
  clear Oz2_22 Pz2
  go_wp2
  go_ret
  exact ⟨rfl, B10.out⟩

theorem walk_FnExactApplyWord (a0 : Int) (a1 : Option Addr) (len1 cap1 : Nat) (z1 : List (List Int)) (a2 : Option Addr) (len2 cap2 : Nat) (z2 : List Int) (a3 : Int) (w : World) (w0 : (Lit.int .i64 a0).wf = true) (w1 : IsRows w a1 len1 z1) (w2 : IsRow .i64 w a2 len2 cap2 z2) (w3 : (Lit.int .i64 a3).wf = true) :
    Calls Try.prog 15 #[.int .i64 a0, .slice a1 len1 cap1, .slice a2 len2 cap2, .int .i64 a3] w fun e w' => e = .returned (.bool true) ∧ Below w.heap.size w w' := by
  obtain ⟨hx1, ha1, hm1⟩ := w1
  obtain ⟨x2, hx2, ha2, _, hm2⟩ := isRow_rd w2
  exact law_ApplyWord w w0 hx1 ha1 hm1 hx2 ha2 hm2 w3
end Go.Proofs.Ytbjfeogkdfmjpaa
