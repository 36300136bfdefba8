import Derived.Test.YtjkddoiacifhpaaWd7
import Derived.Test.YtjkddoiacifhpaaMb
import Derived.Test.YtjkddoiacifhpaaL1
namespace Go.Proofs.Ytjkddoiacifhpaa
open Go.RowKit

set_option maxHeartbeats 6400000 in
set_option maxRecDepth 8000 in
theorem law_EulerCharacteristic {A0 : Option Addr} {c0 : Nat} {x0 : List (List Int)} {n0 : Nat} (w : World) (hx0 : x0.length = n0) (ha0 : RdSS w A0 x0) (hm0 : n0 ≤ maxLen) :
    Calls Try.prog 14 #[.agg #[.slice A0 n0 c0]] w fun e w' => e = .returned (.bool true) ∧ Below w.heap.size w w' := by
  unfold maxLen at hm0
  have HX0 := Lib.hid hx0
  have HA0 := Lib.hid ha0
  clear hx0 ha0
  have BX0 := Lib.hid (Bx.start w (.slice A0 n0 c0) 73)
  go_enter Try.func14, Try.ntmps14
  have hbc := BX0.out.cell
  go_wp2_with fail
  clear hbc
  refine (szM_any _ HX0.out (HA0.out.al _) hm0).mono ?_
  rintro e w0 ⟨r, rfl, g0, g1, g2, bel⟩
  have s1 : (w.alloc (.cells #[.slice A0 n0 c0] 73)).heap.size ≤ w0.heap.size := (bel).size
  have BX1 := Lib.hid (BX0.out.go bel)
  clear BX0 
  clear bel
  by_cases hneg : r < 0
  · clear g2
    go_wp2
    go_ret
    exact ⟨rfl, BX1.out.below⟩
  have hz := g2 (by omega)
  have hb0 : n0 ≤ 1048576 := by have := hz.1; rw [HX0.out] at this; omega
  have HR0 := Lib.hid hz.2
  clear g2 hz
  have hbc := BX1.out.cell
  go_wp2_with fail
  clear hbc
  refine (toM_any _ HX0.out (HA0.out.keep BX1.out.below) hb0 HR0.out).mono ?_
  rintro e w1 ⟨Aa0, ca0, rfl, own, bel⟩
  have s2 : w0.heap.size ≤ w1.heap.size := (bel).size
  have BX2 := Lib.hid (BX1.out.go bel)
  clear BX1 
  have Oa0_1 := Lib.hid own
  clear bel own
  have hbc := BX2.out.cell
  go_wp2_with fail
  clear hbc
  refine (sEulerCharacteristic_any _ HX0.out (ownSS_rd Oa0_1.out) hb0 HR0.out).mono ?_
  rintro e w2 ⟨rfl, bel⟩
  have s3 : w1.heap.size ≤ w2.heap.size := (bel).size
  have BX3 := Lib.hid (BX2.out.go bel)
  have Oa0_2 := Lib.hid (ownSS_below Oa0_1.out bel (Nat.le_refl _))
  clear BX2 Oa0_1
  clear bel
  clear Oa0_2
  have hbc := BX3.out.cell
  go_wp2_with fail
  clear hbc
  refine (toM_any _ HX0.out (HA0.out.keep BX3.out.below) hb0 HR0.out).mono ?_
  rintro e w3 ⟨Ay0, cy0, rfl, own, bel⟩
  have s4 : w2.heap.size ≤ w3.heap.size := (bel).size
  have BX4 := Lib.hid (BX3.out.go bel)
  clear BX3 
  have Oy0_3 := Lib.hid own
  clear bel own
  have s5 : w3.heap.size ≤ (w3.alloc (.cells #[.slice Ay0 n0 cy0] 51)).heap.size := ((below1 w3 (.cells #[.slice Ay0 n0 cy0] 51))).size
  have BX5 := Lib.hid (BX4.out.go (below1 w3 (.cells #[.slice Ay0 n0 cy0] 51)))
  have Oy0_4 := Lib.hid (ownSS_below Oy0_3.out (below1 w3 (.cells #[.slice Ay0 n0 cy0] 51)) (Nat.le_refl _))
  clear BX4 Oy0_3
  have XC5 := Lib.hid (Bx.start w3 (.slice Ay0 n0 cy0) 51).cell
  have hgx : w3.heap.size < (w3.alloc (.cells #[.slice Ay0 n0 cy0] 51)).heap.size := by simp
  have hbc := BX5.out.cell
  have hxc := XC5.out
  go_wp2_with fail
  clear hbc hxc
  refine (iEulerCharacteristic_any _ HX0.out (ownSS_rd Oy0_4.out) hb0 HR0.out (ownSS_cap Oy0_4.out).1 (ownSS_cap Oy0_4.out).2).mono ?_
  rintro e w4 ⟨rfl, bel⟩
  have s6 : (w3.alloc (.cells #[.slice Ay0 n0 cy0] 51)).heap.size ≤ w4.heap.size := (bel).size
  have BX6 := Lib.hid (BX5.out.go bel)
  have XC6 := Lib.hid (cell_be XC5.out bel)
  have Oy0_7 := Lib.hid (ownSS_below Oy0_4.out bel (Nat.le_refl _))
  clear BX5 XC5 Oy0_4
  clear bel
  have HAK := Lib.hid (HA0.out.keep BX6.out.below)
  have HOK := Lib.hid (ownSS_rd Oy0_7.out)
  have hbc := BX6.out.cell
  have hxc := XC6.out
  go_wp2_with fail
  go_region_held3 (fun w' => Below w4.heap.size w4 w' ∧ w'.cell? ⟨w.heap.size, 0, none⟩ = some (.slice A0 n0 c0) ∧ w'.cell? ⟨w3.heap.size, 0, none⟩ = some (.slice Ay0 n0 cy0)) (first | (exact ⟨below_drewN (Below.refl _ _) 1, hbc, hxc⟩) | (exact q))
    (first
      | (go_at_call 81
         refine (toM_any _ HX0.out (rd_s3 HAK.out (by assumption)) hb0 HR0.out).mono ?_
         rintro e wc ⟨A6, c6, rfl, own, bel⟩
         have q := s3_go (by assumption) bel)
      | (go_at_call 82
         refine (eqM_same _ HX0.out HX0.out (rd_s3 HOK.out (by assumption)) (ownSS_rd own) (by omega)).mono ?_
         rintro e w5 ⟨rfl, bel2⟩
         have q := s3_go (by assumption) bel2))
  clear hbc hxc
  have s7 : w4.heap.size ≤ w5.heap.size := (q.1).size
  have BX7 := Lib.hid (BX6.out.go q.1)
  have XC8 := Lib.hid (cell_be XC6.out q.1)
  have Oy0_9 := Lib.hid (ownSS_below Oy0_7.out q.1 (Nat.le_refl _))
  clear BX6 XC6 Oy0_7
  clear HAK HOK
  have hbc := BX7.out.cell
  have hxc := XC8.out
  go_wp2
  go_ret
  exact ⟨rfl, BX7.out.below⟩

theorem walk_FnExactEulerCharacteristic (a0 : Option Addr) (len0 cap0 : Nat) (z0 : List (List Int)) (w : World) (w0 : IsRows w a0 len0 z0) :
    Calls Try.prog 14 #[.agg #[.slice a0 len0 cap0]] w fun e w' => e = .returned (.bool true) ∧ Below w.heap.size w w' := by
  obtain ⟨hx0, ha0, hm0⟩ := w0
  exact law_EulerCharacteristic w hx0 ha0 hm0
end Go.Proofs.Ytjkddoiacifhpaa
