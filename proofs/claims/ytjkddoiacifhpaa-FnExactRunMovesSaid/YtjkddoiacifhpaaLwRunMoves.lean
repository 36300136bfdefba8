import Derived.Test.YtjkddoiacifhpaaWm6
import Derived.Test.YtjkddoiacifhpaaMb
import Derived.Test.YtjkddoiacifhpaaL1
namespace Go.Proofs.Ytjkddoiacifhpaa
open Go.RowKit

set_option maxHeartbeats 6400000 in
set_option maxRecDepth 8000 in
theorem law_RunMoves {A0 : Option Addr} {c0 : Nat} {x0 : List (List Int)} {n0 : Nat} {k1 : Int} {A2 : Option Addr} {c2 : Nat} {x2 : List Int} {n2 : Nat} (w : World) (hx0 : x0.length = n0) (ha0 : RdSS w A0 x0) (hm0 : n0 ≤ maxLen) (hw1 : (Lit.int .i64 k1).wf = true) (hx2 : x2.length = n2) (ha2 : Rd w A2 (ints x2)) (hm2 : n2 ≤ maxLen) :
    Calls Try.prog 18 #[.agg #[.slice A0 n0 c0], .int .i64 k1, .slice A2 n2 c2] w fun e w' => e = .returned (.bool true) ∧ Below w.heap.size w w' := by
  unfold maxLen at hm0
  have HX0 := Lib.hid hx0
  have HA0 := Lib.hid ha0
  clear hx0 ha0
  have HW1 := Lib.hid hw1
  clear hw1
  unfold maxLen at hm2
  have HX2 := Lib.hid hx2
  have HA2 := Lib.hid ha2
  clear hx2 ha2
  have BX0 := Lib.hid (Bx.start w (.slice A0 n0 c0) 73)
  by_cases hn2 : 1048576 < n2
  · go_enter Try.func18, Try.ntmps18
    go_wp2
    go_ret
    exact ⟨rfl, BX0.out.below⟩
  have hb2 : n2 ≤ 1048576 := by omega
  clear hn2
  go_enter Try.func18, Try.ntmps18
  have hbc := BX0.out.cell
  go_wp2_with fail
  clear hbc
  refine (szM_any _ HX0.out (HA0.out.al _) hm0).mono ?_
  rintro e w0 ⟨r, rfl, g0, g1, g2, bel⟩
  have s1 : (w.alloc (.cells #[.slice A0 n0 c0] 73)).heap.size ≤ w0.heap.size := (bel).size
  have BX1 := Lib.hid (BX0.out.go bel)
  clear BX0 
  clear bel
  by_cases hneg : r < 0
  · clear g2
    go_wp2
    go_ret
    exact ⟨rfl, BX1.out.below⟩
  have hz := g2 (by omega)
  have hb0 : n0 ≤ 1048576 := by have := hz.1; rw [HX0.out] at this; omega
  have HR0 := Lib.hid hz.2
  clear g2 hz
  have hbc := BX1.out.cell
  go_wp2_with fail
  clear hbc
  refine (toM_any _ HX0.out (HA0.out.keep BX1.out.below) hb0 HR0.out).mono ?_
  rintro e w1 ⟨Aa0, ca0, rfl, own, bel⟩
  have s2 : w0.heap.size ≤ w1.heap.size := (bel).size
  have BX2 := Lib.hid (BX1.out.go bel)
  clear BX1 
  have Oa0_1 := Lib.hid own
  clear bel own
  have hbc := BX2.out.cell
  go_wp2_with fail
  clear hbc
  refine (to_any _ HX2.out (HA2.out.keep BX2.out.below) hb2).mono ?_
  rintro e w2 ⟨Aa2, ca2, rfl, own, bel⟩
  have s3 : w1.heap.size ≤ w2.heap.size := (bel).size
  have BX3 := Lib.hid (BX2.out.go bel)
  have Oa0_2 := Lib.hid (ownSS_below Oa0_1.out bel (Nat.le_refl _))
  clear BX2 Oa0_1
  have Oa2_3 := Lib.hid own
  have Pa2 := Lib.hid (own_in own)
  clear bel own
  have hbc := BX3.out.cell
  go_wp2_with fail
  clear hbc
  refine (sRun_any k1 _ HX0.out (ownSS_rd Oa0_2.out) hb0 HR0.out HX2.out (own_rd Oa2_3.out) hb2).mono ?_
  rintro e w3 ⟨rfl, bel⟩
  have s4 : w2.heap.size ≤ w3.heap.size := (bel).size
  have BX4 := Lib.hid (BX3.out.go bel)
  have Oa0_4 := Lib.hid (ownSS_below Oa0_2.out bel (Nat.le_refl _))
  have Oa2_5 := Lib.hid (own_below Oa2_3.out bel (Nat.le_refl _))
  clear BX3 Oa0_2 Oa2_3
  clear bel
  clear Oa0_4
  clear Oa2_5 Pa2
  have hbc := BX4.out.cell
  go_wp2_with fail
  clear hbc
  refine (toM_any _ HX0.out (HA0.out.keep BX4.out.below) hb0 HR0.out).mono ?_
  rintro e w4 ⟨Ay0, cy0, rfl, own, bel⟩
  have s5 : w3.heap.size ≤ w4.heap.size := (bel).size
  have BX5 := Lib.hid (BX4.out.go bel)
  clear BX4 
  have Oy0_6 := Lib.hid own
  clear bel own
  have s6 : w4.heap.size ≤ (w4.alloc (.cells #[.slice Ay0 n0 cy0] 51)).heap.size := ((below1 w4 (.cells #[.slice Ay0 n0 cy0] 51))).size
  have BX6 := Lib.hid (BX5.out.go (below1 w4 (.cells #[.slice Ay0 n0 cy0] 51)))
  have Oy0_7 := Lib.hid (ownSS_below Oy0_6.out (below1 w4 (.cells #[.slice Ay0 n0 cy0] 51)) (Nat.le_refl _))
  clear BX5 Oy0_6
  have XC8 := Lib.hid (Bx.start w4 (.slice Ay0 n0 cy0) 51).cell
  have hgx : w4.heap.size < (w4.alloc (.cells #[.slice Ay0 n0 cy0] 51)).heap.size := by simp
  have hbc := BX6.out.cell
  have hxc := XC8.out
  go_wp2_with fail
  clear hbc hxc
  refine (to_any _ HX2.out (HA2.out.keep BX6.out.below) hb2).mono ?_
  rintro e w5 ⟨Ay2, cy2, rfl, own, bel⟩
  have s7 : (w4.alloc (.cells #[.slice Ay0 n0 cy0] 51)).heap.size ≤ w5.heap.size := (bel).size
  have BX7 := Lib.hid (BX6.out.go bel)
  have XC9 := Lib.hid (cell_be XC8.out bel)
  have Oy0_10 := Lib.hid (ownSS_below Oy0_7.out bel (Nat.le_refl _))
  clear BX6 XC8 Oy0_7
  have Oy2_11 := Lib.hid own
  have Py2 := Lib.hid (own_in own)
  clear bel own
  have hbc := BX7.out.cell
  have hxc := XC9.out
  go_wp2_with fail
  clear hbc hxc
  refine (iRun_any k1 _ HX0.out (ownSS_rd Oy0_10.out) hb0 HR0.out HX2.out (own_rd Oy2_11.out) hb2).mono ?_
  rintro e w6 ⟨rfl, bel⟩
  have s8 : w5.heap.size ≤ w6.heap.size := (bel).size
  have BX8 := Lib.hid (BX7.out.go bel)
  have XC12 := Lib.hid (cell_be XC9.out bel)
  have Oy0_13 := Lib.hid (ownSS_below Oy0_10.out bel (Nat.le_refl _))
  have Oy2_14 := Lib.hid (own_below Oy2_11.out bel (Nat.le_refl _))
  clear BX7 XC9 Oy0_10 Oy2_11
  clear bel
  have HAK := Lib.hid (HA0.out.keep BX8.out.below)
  have HOK := Lib.hid (ownSS_rd Oy0_13.out)
  have hbc := BX8.out.cell
  have hxc := XC12.out
  go_wp2_with fail
  go_region_held3 (fun w' => Below w6.heap.size w6 w' ∧ w'.cell? ⟨w.heap.size, 0, none⟩ = some (.slice A0 n0 c0) ∧ w'.cell? ⟨w4.heap.size, 0, none⟩ = some (.slice Ay0 n0 cy0)) (first | (exact ⟨below_drewN (Below.refl _ _) 1, hbc, hxc⟩) | (exact q))
    (first
      | (go_at_call 81
         refine (toM_any _ HX0.out (rd_s3 HAK.out (by assumption)) hb0 HR0.out).mono ?_
         rintro e wc ⟨A6, c6, rfl, own, bel⟩
         have q := s3_go (by assumption) bel)
      | (go_at_call 82
         refine (eqM_same _ HX0.out HX0.out (rd_s3 HOK.out (by assumption)) (ownSS_rd own) (by omega)).mono ?_
         rintro e w7 ⟨rfl, bel2⟩
         have q := s3_go (by assumption) bel2))
  clear hbc hxc
  have s9 : w6.heap.size ≤ w7.heap.size := (q.1).size
  have BX9 := Lib.hid (BX8.out.go q.1)
  have XC15 := Lib.hid (cell_be XC12.out q.1)
  have Oy0_16 := Lib.hid (ownSS_below Oy0_13.out q.1 (Nat.le_refl _))
  have Oy2_17 := Lib.hid (own_below Oy2_14.out q.1 (Nat.le_refl _))
  clear BX8 XC12 Oy0_13 Oy2_14
  clear HAK HOK
  have hbc := BX9.out.cell
  have hxc := XC15.out
  go_wp2_with fail
  clear hbc hxc
  refine (to_any _ HX2.out (HA2.out.keep BX9.out.below) hb2).mono ?_
  rintro e w8 ⟨Az2, cz2, rfl, own, bel⟩
  have s10 : w7.heap.size ≤ w8.heap.size := (bel).size
  have BX10 := Lib.hid (BX9.out.go bel)
  have XC18 := Lib.hid (cell_be XC15.out bel)
  have Oy0_19 := Lib.hid (ownSS_below Oy0_16.out bel (Nat.le_refl _))
  have Oy2_20 := Lib.hid (own_below Oy2_17.out bel (Nat.le_refl _))
  clear BX9 XC15 Oy0_16 Oy2_17
  have Oz2_21 := Lib.hid own
  have Pz2 := Lib.hid (own_in own)
  clear bel own
  have hbc := BX10.out.cell
  have hxc := XC18.out
  go_wp2_with fail
  clear hbc hxc
  refine (eq_same _ HX2.out HX2.out (own_rd Oy2_20.out) (own_rd Oz2_21.out) (by omega)).mono ?_
  rintro e w9 ⟨rfl, bel⟩
  have s11 : w8.heap.size ≤ w9.heap.size := (bel).size
  have BX11 := Lib.hid (BX10.out.go bel)
  have XC22 := Lib.hid (cell_be XC18.out bel)
  have Oy0_23 := Lib.hid (ownSS_below Oy0_19.out bel (Nat.le_refl _))
  have Oy2_24 := Lib.hid (own_below Oy2_20.out bel (Nat.le_refl _))
  have Oz2_25 := Lib.hid (own_below Oz2_21.out bel (Nat.le_refl _))
  clear BX10 XC18 Oy0_19 Oy2_20 Oz2_21
  clear bel
  clear Oz2_25 Pz2
  have hbc := BX11.out.cell
  have hxc := XC22.out
  go_wp2
  go_ret
  exact ⟨rfl, BX11.out.below⟩

theorem walk_FnExactRunMoves (a0 : Option Addr) (len0 cap0 : Nat) (z0 : List (List Int)) (a1 : Int) (a2 : Option Addr) (len2 cap2 : Nat) (z2 : List Int) (w : World) (w0 : IsRows w a0 len0 z0) (w1 : (Lit.int .i64 a1).wf = true) (w2 : IsRow .i64 w a2 len2 cap2 z2) :
    Calls Try.prog 18 #[.agg #[.slice a0 len0 cap0], .int .i64 a1, .slice a2 len2 cap2] w fun e w' => e = .returned (.bool true) ∧ Below w.heap.size w w' := by
  obtain ⟨hx0, ha0, hm0⟩ := w0
  obtain ⟨x2, hx2, ha2, _, hm2⟩ := isRow_rd w2
  exact law_RunMoves w hx0 ha0 hm0 w1 hx2 ha2 hm2
end Go.Proofs.Ytjkddoiacifhpaa
