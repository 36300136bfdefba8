import Derived.Test.YtdhcklfpammhkaaTz
import Derived.Test.YtdhcklfpammhkaaL6
import Derived.Test.YtdhcklfpammhkaaL1
namespace Go.Proofs.Ytdhcklfpammhkaa
open Go.RowKit

set_option maxHeartbeats 6400000 in
set_option maxRecDepth 8000 in
theorem law_TwinFlags {A0 : Option Addr} {c0 : Nat} {x0 : List (List Int)} {n0 : Nat} (w : World) (hx0 : x0.length = n0) (ha0 : RdSS w A0 x0) (hm0 : n0 ≤ maxLen) :
    Calls Try.prog 22 #[.agg #[.slice A0 n0 c0]] w fun e w' => e = .returned (.bool true) ∧ Below w.heap.size w w' := by
  unfold maxLen at hm0
  have HX0 := Lib.hid hx0
  have HA0 := Lib.hid ha0
  clear hx0 ha0
  have BX0 := Lib.hid (Bx.start w (.slice A0 n0 c0) 87)
  have hs0 : w.heap.size + 1 ≤ (w.alloc (.cells #[.slice A0 n0 c0] 87)).heap.size := by simp
  go_enter Try.func22, Try.ntmps22
  have hbc := BX0.out.cell
  go_wp2_with fail
  clear hbc
  refine (szM_any _ HX0.out (HA0.out.al _) hm0).mono ?_
  rintro e w0 ⟨r, rfl, g0, g1, g2, bel⟩
  have s1 : (w.alloc (.cells #[.slice A0 n0 c0] 87)).heap.size ≤ w0.heap.size := (bel).size
  have BX1 := Lib.hid (BX0.out.go bel)
  clear BX0 
  clear bel
  by_cases hneg : r < 0
  · clear g2
    go_wp2
    go_ret
    exact ⟨rfl, BX1.out.below⟩
  have hz := g2 (by omega)
  have hb0 : n0 ≤ 1048576 := by have := hz.1; rw [HX0.out] at this; omega
  have HR0 := Lib.hid hz.2
  clear g2 hz
  have hbc := BX1.out.cell
  go_wp2_with fail
  clear hbc
  refine (toM_any _ HX0.out (HA0.out.keep BX1.out.below) hb0 HR0.out).mono ?_
  rintro e w1 ⟨Aa0, ca0, rfl, own, bel⟩
  have s2 : w0.heap.size ≤ w1.heap.size := (bel).size
  have BX2 := Lib.hid (BX1.out.go bel)
  clear BX1 
  have Oa0_1 := Lib.hid own
  clear bel own
  have hbc := BX2.out.cell
  go_wp2_with fail
  clear hbc
  refine (sTwinFlags_any _ HX0.out (ownSS_rd Oa0_1.out) hb0 HR0.out).mono ?_
  rintro e w2 ⟨Av, cv, rfl, own, bel⟩
  have s3 : w1.heap.size ≤ w2.heap.size := (bel).size
  have BX3 := Lib.hid (BX2.out.go bel)
  have Oa0_2 := Lib.hid (ownSS_below Oa0_1.out bel (Nat.le_refl _))
  clear BX2 Oa0_1
  have Ov_3 := Lib.hid own
  have Pv := Lib.hid (own_in own)
  clear bel own
  clear Oa0_2
  have hbc := BX3.out.cell
  go_wp2_with fail
  clear hbc
  refine (toM_any _ HX0.out (HA0.out.keep BX3.out.below) hb0 HR0.out).mono ?_
  rintro e w3 ⟨Ay0, cy0, rfl, own, bel⟩
  have s4 : w2.heap.size ≤ w3.heap.size := (bel).size
  have BX4 := Lib.hid (BX3.out.go bel)
  have Ov_4 := Lib.hid (own_below Ov_3.out bel (Nat.le_refl _))
  clear BX3 Ov_3
  have Oy0_5 := Lib.hid own
  clear bel own
  have s5 : w3.heap.size ≤ (w3.alloc (.cells #[.slice Ay0 n0 cy0] 51)).heap.size := ((below1 w3 (.cells #[.slice Ay0 n0 cy0] 51))).size
  have BX5 := Lib.hid (BX4.out.go (below1 w3 (.cells #[.slice Ay0 n0 cy0] 51)))
  have Ov_6 := Lib.hid (own_below Ov_4.out (below1 w3 (.cells #[.slice Ay0 n0 cy0] 51)) (Nat.le_refl _))
  have Oy0_7 := Lib.hid (ownSS_below Oy0_5.out (below1 w3 (.cells #[.slice Ay0 n0 cy0] 51)) (Nat.le_refl _))
  clear BX4 Ov_4 Oy0_5
  have XC8 := Lib.hid (Bx.start w3 (.slice Ay0 n0 cy0) 51).cell
  have hg_x0 : w3.heap.size < (w3.alloc (.cells #[.slice Ay0 n0 cy0] 51)).heap.size := by simp
  have hbc := BX5.out.cell
  have hx0 := XC8.out
  go_wp2_with fail
  clear hbc hx0
  refine (iTwinFlags_any _ HX0.out (ownSS_rd Oy0_7.out) hb0 HR0.out (ownSS_cap Oy0_7.out).1 (ownSS_cap Oy0_7.out).2).mono ?_
  rintro e w4 ⟨Ag, cg, rfl, own, bel⟩
  have s6 : (w3.alloc (.cells #[.slice Ay0 n0 cy0] 51)).heap.size ≤ w4.heap.size := (bel).size
  have BX6 := Lib.hid (BX5.out.go bel)
  have XC9 := Lib.hid (cell_be XC8.out bel)
  have Ov_10 := Lib.hid (own_below Ov_6.out bel (Nat.le_refl _))
  have Oy0_11 := Lib.hid (ownSS_below Oy0_7.out bel (Nat.le_refl _))
  clear BX5 XC8 Ov_6 Oy0_7
  have Og_12 := Lib.hid own
  have Pg := Lib.hid (own_in own)
  clear bel own
  have hlen : (twR x0).length ≤ 1048576 := twR_le _
  have hbc := BX6.out.cell
  have hx0 := XC9.out
  go_wp2_with fail
  clear hbc hx0
  refine (eq_same _ rfl rfl (own_rd Og_12.out) (own_rd Ov_10.out) (by omega)).mono ?_
  rintro e w5 ⟨rfl, bel⟩
  have s7 : w4.heap.size ≤ w5.heap.size := (bel).size
  have BX7 := Lib.hid (BX6.out.go bel)
  have XC13 := Lib.hid (cell_be XC9.out bel)
  have Ov_14 := Lib.hid (own_below Ov_10.out bel (Nat.le_refl _))
  have Oy0_15 := Lib.hid (ownSS_below Oy0_11.out bel (Nat.le_refl _))
  have Og_16 := Lib.hid (own_below Og_12.out bel (Nat.le_refl _))
  clear BX6 XC9 Ov_10 Oy0_11 Og_12
  clear bel
  have HAK := Lib.hid (HA0.out.keep BX7.out.below)
  have HOK := Lib.hid (ownSS_rd Oy0_15.out)
  have hbc := BX7.out.cell
  have hx0 := XC13.out
  go_wp2_with fail
  go_region_held3 (fun w' => Below w5.heap.size w5 w' ∧ w'.cell? ⟨w.heap.size, 0, none⟩ = some (.slice A0 n0 c0) ∧ w'.cell? ⟨w3.heap.size, 0, none⟩ = some (.slice Ay0 n0 cy0)) (first | (exact ⟨below_drewN (Below.refl _ _) 1, hbc, hx0⟩) | (exact q))
    (first
      | (go_at_call 96
         refine (toM_any _ HX0.out (rd_s3 HAK.out (by assumption)) hb0 HR0.out).mono ?_
         rintro e wc ⟨A6, c6, rfl, own, bel⟩
         have q := s3_go (by assumption) bel)
      | (go_at_call 97
         refine (eqM_same _ HX0.out HX0.out (rd_s3 HOK.out (by assumption)) (ownSS_rd own) (by omega)).mono ?_
         rintro e w6 ⟨rfl, bel2⟩
         have q := s3_go (by assumption) bel2))
  clear hbc hx0
  have s8 : w5.heap.size ≤ w6.heap.size := (q.1).size
  have BX8 := Lib.hid (BX7.out.go q.1)
  have XC17 := Lib.hid (cell_be XC13.out q.1)
  have Ov_18 := Lib.hid (own_below Ov_14.out q.1 (Nat.le_refl _))
  have Oy0_19 := Lib.hid (ownSS_below Oy0_15.out q.1 (Nat.le_refl _))
  have Og_20 := Lib.hid (own_below Og_16.out q.1 (Nat.le_refl _))
  clear BX7 XC13 Ov_14 Oy0_15 Og_16
  clear HAK HOK
  have ht0 := totalL_le HR0.out x0.length
  rw [List.take_length, HX0.out] at ht0
  have hbc := BX8.out.cell
  have hx0 := XC17.out
  go_wp2_with fail
  clear hbc hx0
  refine (markM_any _ _ Oy0_19.out (by decide) (by omega) HR0.out (by omega) (by omega)).mono ?_
  rintro e w7 ⟨rfl, own, tu⟩
  have s9 : w6.heap.size ≤ w7.heap.size := (tu).size
  have BX9 := Lib.hid (BX8.out.tu tu (by omega))
  have XC21 := Lib.hid (turns_cell tu XC17.out (by omega))
  have Ov_22 := Lib.hid (tu.own Ov_18.out Pv.out (by omega))
  have Og_23 := Lib.hid (tu.own Og_20.out Pg.out (by omega))
  clear BX8 XC17 Ov_18 Og_20
  clear Oy0_19 own tu
  have hbc := BX9.out.cell
  have hx0 := XC21.out
  go_wp2_with fail
  clear hbc hx0
  refine (eq_same _ rfl rfl (own_rd Og_23.out) (own_rd Ov_22.out) (by omega)).mono ?_
  rintro e w8 ⟨rfl, bel⟩
  have s10 : w7.heap.size ≤ w8.heap.size := (bel).size
  have BX10 := Lib.hid (BX9.out.go bel)
  have XC24 := Lib.hid (cell_be XC21.out bel)
  have Ov_25 := Lib.hid (own_below Ov_22.out bel (Nat.le_refl _))
  have Og_26 := Lib.hid (own_below Og_23.out bel (Nat.le_refl _))
  clear BX9 XC21 Ov_22 Og_23
  clear bel
  have hbc := BX10.out.cell
  have hx0 := XC24.out
  go_wp2_with fail
  clear hbc hx0
  refine (mark_any 1 _ Og_26.out hlen (by omega) (by omega)).mono ?_
  rintro e w9 ⟨rfl, own, gr⟩
  have tu := Turns.of_grown gr Pg.out
  have s11 : w8.heap.size ≤ w9.heap.size := (tu).size
  have BX11 := Lib.hid (BX10.out.tu tu (by omega))
  have XC27 := Lib.hid (turns_cell tu XC24.out (by omega))
  have Ov_28 := Lib.hid (tu.own Ov_25.out Pv.out (by omega))
  clear BX10 XC24 Ov_25
  have Og_29 := Lib.hid own
  clear Og_26 own tu gr
  have hbc := BX11.out.cell
  have hx0 := XC27.out
  go_wp2_with fail
  clear hbc hx0
  refine (held_any 1 _ (own_rd Og_29.out) hlen (by omega) (by omega)).mono ?_
  rintro e wz ⟨rfl, rfl⟩
  have hbc := BX11.out.cell
  have hx0 := XC27.out
  go_wp2_with fail
  clear hbc hx0
  refine (toM_any _ HX0.out (HA0.out.keep BX11.out.below) hb0 HR0.out).mono ?_
  rintro e w10 ⟨Ab0, cb0, rfl, own, bel⟩
  have s12 : w9.heap.size ≤ w10.heap.size := (bel).size
  have BX12 := Lib.hid (BX11.out.go bel)
  have XC30 := Lib.hid (cell_be XC27.out bel)
  have Ov_31 := Lib.hid (own_below Ov_28.out bel (Nat.le_refl _))
  have Og_32 := Lib.hid (own_below Og_29.out bel (Nat.le_refl _))
  clear BX11 XC27 Ov_28 Og_29
  have Ob0_33 := Lib.hid own
  clear bel own
  have hbc := BX12.out.cell
  have hx0 := XC30.out
  go_wp2_with fail
  clear hbc hx0
  refine (iTwinFlags_any _ HX0.out (ownSS_rd Ob0_33.out) hb0 HR0.out (ownSS_cap Ob0_33.out).1 (ownSS_cap Ob0_33.out).2).mono ?_
  rintro e w11 ⟨Ah, ch, rfl, own, bel⟩
  have s13 : w10.heap.size ≤ w11.heap.size := (bel).size
  have BX13 := Lib.hid (BX12.out.go bel)
  have XC34 := Lib.hid (cell_be XC30.out bel)
  have Ov_35 := Lib.hid (own_below Ov_31.out bel (Nat.le_refl _))
  have Og_36 := Lib.hid (own_below Og_32.out bel (Nat.le_refl _))
  have Ob0_37 := Lib.hid (ownSS_below Ob0_33.out bel (Nat.le_refl _))
  clear BX12 XC30 Ov_31 Og_32 Ob0_33
  have Oh_38 := Lib.hid own
  have Ph := Lib.hid (own_in own)
  clear bel own
  clear Ob0_37
  have hbc := BX13.out.cell
  have hx0 := XC34.out
  go_wp2_with fail
  clear hbc hx0
  refine (eq_same _ rfl rfl (own_rd Oh_38.out) (own_rd Ov_35.out) (by omega)).mono ?_
  rintro e w12 ⟨rfl, bel⟩
  have s14 : w11.heap.size ≤ w12.heap.size := (bel).size
  have BX14 := Lib.hid (BX13.out.go bel)
  have XC39 := Lib.hid (cell_be XC34.out bel)
  have Ov_40 := Lib.hid (own_below Ov_35.out bel (Nat.le_refl _))
  have Og_41 := Lib.hid (own_below Og_36.out bel (Nat.le_refl _))
  have Oh_42 := Lib.hid (own_below Oh_38.out bel (Nat.le_refl _))
  clear BX13 XC34 Ov_35 Og_36 Oh_38
  clear bel
  have hbc := BX14.out.cell
  have hx0 := XC39.out
  go_wp2_with fail
  clear hbc hx0
  refine (held_any 1 _ (own_rd Og_41.out) hlen (by omega) (by omega)).mono ?_
  rintro e wz ⟨rfl, rfl⟩
  have hbc := BX14.out.cell
  have hx0 := XC39.out
  go_wp2
  go_ret
  exact ⟨rfl, BX14.out.below⟩

theorem walk_FnExactTwinFlags (a0 : Option Addr) (len0 cap0 : Nat) (z0 : List (List Int)) (w : World) (w0 : IsRows w a0 len0 z0) :
    Calls Try.prog 22 #[.agg #[.slice a0 len0 cap0]] w fun e w' => e = .returned (.bool true) ∧ Below w.heap.size w w' := by
  obtain ⟨hx0, ha0, hm0⟩ := w0
  exact law_TwinFlags w hx0 ha0 hm0
end Go.Proofs.Ytdhcklfpammhkaa
