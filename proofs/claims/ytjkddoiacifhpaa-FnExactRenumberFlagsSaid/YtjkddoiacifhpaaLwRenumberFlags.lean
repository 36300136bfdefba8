import Derived.Test.YtjkddoiacifhpaaWd8
import Derived.Test.YtjkddoiacifhpaaMb
import Derived.Test.YtjkddoiacifhpaaL1
import Derived.Test.YtjkddoiacifhpaaMh
namespace Go.Proofs.Ytjkddoiacifhpaa
open Go.RowKit

set_option maxHeartbeats 6400000 in
set_option maxRecDepth 8000 in
theorem law_RenumberFlags {A0 : Option Addr} {c0 : Nat} {x0 : List (List Int)} {n0 : Nat} {A1 : Option Addr} {c1 : Nat} {x1 : List Int} {n1 : Nat} (w : World) (hx0 : x0.length = n0) (ha0 : RdSS w A0 x0) (hm0 : n0 ≤ maxLen) (hx1 : x1.length = n1) (ha1 : Rd w A1 (ints x1)) (hm1 : n1 ≤ maxLen) :
    Calls Try.prog 24 #[.agg #[.slice A0 n0 c0], .slice A1 n1 c1] w fun e w' => e = .returned (.bool true) ∧ Below w.heap.size w w' := by
  unfold maxLen at hm0
  have HX0 := Lib.hid hx0
  have HA0 := Lib.hid ha0
  clear hx0 ha0
  unfold maxLen at hm1
  have HX1 := Lib.hid hx1
  have HA1 := Lib.hid ha1
  clear hx1 ha1
  have BX0 := Lib.hid (Bx.start w (.slice A0 n0 c0) 73)
  have hs0 : w.heap.size + 1 ≤ (w.alloc (.cells #[.slice A0 n0 c0] 73)).heap.size := by simp
  by_cases hn1 : 1048576 < n1
  · go_enter Try.func24, Try.ntmps24
    go_wp2
    go_ret
    exact ⟨rfl, BX0.out.below⟩
  have hb1 : n1 ≤ 1048576 := by omega
  clear hn1
  go_enter Try.func24, Try.ntmps24
  have hbc := BX0.out.cell
  go_wp2_with fail
  clear hbc
  refine (szM_any _ HX0.out (HA0.out.al _) hm0).mono ?_
  rintro e w0 ⟨r, rfl, g0, g1, g2, bel⟩
  have s1 : (w.alloc (.cells #[.slice A0 n0 c0] 73)).heap.size ≤ w0.heap.size := (bel).size
  have BX1 := Lib.hid (BX0.out.go bel)
  clear BX0 
  clear bel
  by_cases hneg : r < 0
  · clear g2
    go_wp2
    go_ret
    exact ⟨rfl, BX1.out.below⟩
  have hz := g2 (by omega)
  have hb0 : n0 ≤ 1048576 := by have := hz.1; rw [HX0.out] at this; omega
  have HR0 := Lib.hid hz.2
  clear g2 hz
  have hbc := BX1.out.cell
  go_wp2_with fail
  clear hbc
  refine (toM_any _ HX0.out (HA0.out.keep BX1.out.below) hb0 HR0.out).mono ?_
  rintro e w1 ⟨Aa0, ca0, rfl, own, bel⟩
  have s2 : w0.heap.size ≤ w1.heap.size := (bel).size
  have BX2 := Lib.hid (BX1.out.go bel)
  clear BX1 
  have Oa0_1 := Lib.hid own
  clear bel own
  have hbc := BX2.out.cell
  go_wp2_with fail
  clear hbc
  refine (to_any _ HX1.out (HA1.out.keep BX2.out.below) hb1).mono ?_
  rintro e w2 ⟨Aa1, ca1, rfl, own, bel⟩
  have s3 : w1.heap.size ≤ w2.heap.size := (bel).size
  have BX3 := Lib.hid (BX2.out.go bel)
  have Oa0_2 := Lib.hid (ownSS_below Oa0_1.out bel (Nat.le_refl _))
  clear BX2 Oa0_1
  have Oa1_3 := Lib.hid own
  have Pa1 := Lib.hid (own_in own)
  clear bel own
  have hbc := BX3.out.cell
  go_wp2_with fail
  clear hbc
  refine (sRenumberFlags_any _ HX0.out (ownSS_rd Oa0_2.out) hb0 HR0.out HX1.out (own_rd Oa1_3.out) hb1).mono ?_
  rintro e w3 ⟨Av, cv, rfl, own, bel⟩
  have s4 : w2.heap.size ≤ w3.heap.size := (bel).size
  have BX4 := Lib.hid (BX3.out.go bel)
  have Oa0_4 := Lib.hid (ownSS_below Oa0_2.out bel (Nat.le_refl _))
  have Oa1_5 := Lib.hid (own_below Oa1_3.out bel (Nat.le_refl _))
  clear BX3 Oa0_2 Oa1_3
  have Ov_6 := Lib.hid own
  clear bel own
  have s5 : w3.heap.size ≤ (w3.alloc (.cells #[.slice Av (rnR x0 x1).length cv] 51)).heap.size := ((below1 w3 (.cells #[.slice Av (rnR x0 x1).length cv] 51))).size
  have BX5 := Lib.hid (BX4.out.go (below1 w3 (.cells #[.slice Av (rnR x0 x1).length cv] 51)))
  have Oa0_7 := Lib.hid (ownSS_below Oa0_4.out (below1 w3 (.cells #[.slice Av (rnR x0 x1).length cv] 51)) (Nat.le_refl _))
  have Oa1_8 := Lib.hid (own_below Oa1_5.out (below1 w3 (.cells #[.slice Av (rnR x0 x1).length cv] 51)) (Nat.le_refl _))
  have Ov_9 := Lib.hid (ownSS_below Ov_6.out (below1 w3 (.cells #[.slice Av (rnR x0 x1).length cv] 51)) (Nat.le_refl _))
  clear BX4 Oa0_4 Oa1_5 Ov_6
  have XC10 := Lib.hid (Bx.start w3 (.slice Av (rnR x0 x1).length cv) 51).cell
  have hg_v : w3.heap.size < (w3.alloc (.cells #[.slice Av (rnR x0 x1).length cv] 51)).heap.size := by simp
  clear Oa0_7
  clear Oa1_8 Pa1
  have hbc := BX5.out.cell
  have hv := XC10.out
  go_wp2_with fail
  clear hbc hv
  refine (toM_any _ HX0.out (HA0.out.keep BX5.out.below) hb0 HR0.out).mono ?_
  rintro e w4 ⟨Ay0, cy0, rfl, own, bel⟩
  have s6 : (w3.alloc (.cells #[.slice Av (rnR x0 x1).length cv] 51)).heap.size ≤ w4.heap.size := (bel).size
  have BX6 := Lib.hid (BX5.out.go bel)
  have XC11 := Lib.hid (cell_be XC10.out bel)
  have Ov_12 := Lib.hid (ownSS_below Ov_9.out bel (Nat.le_refl _))
  clear BX5 XC10 Ov_9
  have Oy0_13 := Lib.hid own
  clear bel own
  have s7 : w4.heap.size ≤ (w4.alloc (.cells #[.slice Ay0 n0 cy0] 51)).heap.size := ((below1 w4 (.cells #[.slice Ay0 n0 cy0] 51))).size
  have BX7 := Lib.hid (BX6.out.go (below1 w4 (.cells #[.slice Ay0 n0 cy0] 51)))
  have XC14 := Lib.hid (cell_be XC11.out (below1 w4 (.cells #[.slice Ay0 n0 cy0] 51)))
  have Ov_15 := Lib.hid (ownSS_below Ov_12.out (below1 w4 (.cells #[.slice Ay0 n0 cy0] 51)) (Nat.le_refl _))
  have Oy0_16 := Lib.hid (ownSS_below Oy0_13.out (below1 w4 (.cells #[.slice Ay0 n0 cy0] 51)) (Nat.le_refl _))
  clear BX6 XC11 Ov_12 Oy0_13
  have XC17 := Lib.hid (Bx.start w4 (.slice Ay0 n0 cy0) 51).cell
  have hg_x0 : w4.heap.size < (w4.alloc (.cells #[.slice Ay0 n0 cy0] 51)).heap.size := by simp
  have hbc := BX7.out.cell
  have hv := XC14.out
  have hx0 := XC17.out
  go_wp2_with fail
  clear hbc hv hx0
  refine (to_any _ HX1.out (HA1.out.keep BX7.out.below) hb1).mono ?_
  rintro e w5 ⟨Ay1, cy1, rfl, own, bel⟩
  have s8 : (w4.alloc (.cells #[.slice Ay0 n0 cy0] 51)).heap.size ≤ w5.heap.size := (bel).size
  have BX8 := Lib.hid (BX7.out.go bel)
  have XC18 := Lib.hid (cell_be XC14.out bel)
  have XC19 := Lib.hid (cell_be XC17.out bel)
  have Ov_20 := Lib.hid (ownSS_below Ov_15.out bel (Nat.le_refl _))
  have Oy0_21 := Lib.hid (ownSS_below Oy0_16.out bel (Nat.le_refl _))
  clear BX7 XC14 XC17 Ov_15 Oy0_16
  have Oy1_22 := Lib.hid own
  have Py1 := Lib.hid (own_in own)
  clear bel own
  have hbc := BX8.out.cell
  have hv := XC18.out
  have hx0 := XC19.out
  go_wp2_with fail
  clear hbc hv hx0
  refine (iRenumberFlags_any _ HX0.out (ownSS_rd Oy0_21.out) hb0 HR0.out HX1.out (own_rd Oy1_22.out) hb1).mono ?_
  rintro e w6 ⟨Ag, cg, rfl, own, bel⟩
  have s9 : w5.heap.size ≤ w6.heap.size := (bel).size
  have BX9 := Lib.hid (BX8.out.go bel)
  have XC23 := Lib.hid (cell_be XC18.out bel)
  have XC24 := Lib.hid (cell_be XC19.out bel)
  have Ov_25 := Lib.hid (ownSS_below Ov_20.out bel (Nat.le_refl _))
  have Oy0_26 := Lib.hid (ownSS_below Oy0_21.out bel (Nat.le_refl _))
  have Oy1_27 := Lib.hid (own_below Oy1_22.out bel (Nat.le_refl _))
  clear BX8 XC18 XC19 Ov_20 Oy0_21 Oy1_22
  have Og_28 := Lib.hid own
  clear bel own
  have s10 : w6.heap.size ≤ (w6.alloc (.cells #[.slice Ag (rnR x0 x1).length cg] 51)).heap.size := ((below1 w6 (.cells #[.slice Ag (rnR x0 x1).length cg] 51))).size
  have BX10 := Lib.hid (BX9.out.go (below1 w6 (.cells #[.slice Ag (rnR x0 x1).length cg] 51)))
  have XC29 := Lib.hid (cell_be XC23.out (below1 w6 (.cells #[.slice Ag (rnR x0 x1).length cg] 51)))
  have XC30 := Lib.hid (cell_be XC24.out (below1 w6 (.cells #[.slice Ag (rnR x0 x1).length cg] 51)))
  have Ov_31 := Lib.hid (ownSS_below Ov_25.out (below1 w6 (.cells #[.slice Ag (rnR x0 x1).length cg] 51)) (Nat.le_refl _))
  have Oy0_32 := Lib.hid (ownSS_below Oy0_26.out (below1 w6 (.cells #[.slice Ag (rnR x0 x1).length cg] 51)) (Nat.le_refl _))
  have Oy1_33 := Lib.hid (own_below Oy1_27.out (below1 w6 (.cells #[.slice Ag (rnR x0 x1).length cg] 51)) (Nat.le_refl _))
  have Og_34 := Lib.hid (ownSS_below Og_28.out (below1 w6 (.cells #[.slice Ag (rnR x0 x1).length cg] 51)) (Nat.le_refl _))
  clear BX9 XC23 XC24 Ov_25 Oy0_26 Oy1_27 Og_28
  have XC35 := Lib.hid (Bx.start w6 (.slice Ag (rnR x0 x1).length cg) 51).cell
  have hg_g : w6.heap.size < (w6.alloc (.cells #[.slice Ag (rnR x0 x1).length cg] 51)).heap.size := by simp
  have hlen : (rnR x0 x1).length ≤ 1048576 := (rnR_le _ _).1
  have HROW := Lib.hid (show ∀ xs ∈ rnR x0 x1, (xs.length : Int) ≤ 1048576 from (rnR_le _ _).2)
  have htot := totalL_le HROW.out (rnR x0 x1).length
  rw [List.take_length] at htot
  have hbc := BX10.out.cell
  have hv := XC29.out
  have hx0 := XC30.out
  have hg := XC35.out
  go_wp2_with fail
  clear hbc hv hx0 hg
  refine (eqM_same _ rfl rfl (ownSS_rd Og_34.out) (ownSS_rd Ov_31.out) (by omega)).mono ?_
  rintro e w7 ⟨rfl, bel⟩
  have s11 : (w6.alloc (.cells #[.slice Ag (rnR x0 x1).length cg] 51)).heap.size ≤ w7.heap.size := (bel).size
  have BX11 := Lib.hid (BX10.out.go bel)
  have XC36 := Lib.hid (cell_be XC29.out bel)
  have XC37 := Lib.hid (cell_be XC30.out bel)
  have XC38 := Lib.hid (cell_be XC35.out bel)
  have Ov_39 := Lib.hid (ownSS_below Ov_31.out bel (Nat.le_refl _))
  have Oy0_40 := Lib.hid (ownSS_below Oy0_32.out bel (Nat.le_refl _))
  have Oy1_41 := Lib.hid (own_below Oy1_33.out bel (Nat.le_refl _))
  have Og_42 := Lib.hid (ownSS_below Og_34.out bel (Nat.le_refl _))
  clear BX10 XC29 XC30 XC35 Ov_31 Oy0_32 Oy1_33 Og_34
  clear bel
  have HAK := Lib.hid (HA0.out.keep BX11.out.below)
  have HOK := Lib.hid (ownSS_rd Oy0_40.out)
  have hbc := BX11.out.cell
  have hv := XC36.out
  have hx0 := XC37.out
  have hg := XC38.out
  go_wp2_with fail
  go_region_held3 (fun w' => Below w7.heap.size w7 w' ∧ w'.cell? ⟨w.heap.size, 0, none⟩ = some (.slice A0 n0 c0) ∧ w'.cell? ⟨w4.heap.size, 0, none⟩ = some (.slice Ay0 n0 cy0)) (first | (exact ⟨below_drewN (Below.refl _ _) 1, hbc, hx0⟩) | (exact q))
    (first
      | (go_at_call 81
         refine (toM_any _ HX0.out (rd_s3 HAK.out (by assumption)) hb0 HR0.out).mono ?_
         rintro e wc ⟨A6, c6, rfl, own, bel⟩
         have q := s3_go (by assumption) bel)
      | (go_at_call 82
         refine (eqM_same _ HX0.out HX0.out (rd_s3 HOK.out (by assumption)) (ownSS_rd own) (by omega)).mono ?_
         rintro e w8 ⟨rfl, bel2⟩
         have q := s3_go (by assumption) bel2))
  clear hbc hv hx0 hg
  have s12 : w7.heap.size ≤ w8.heap.size := (q.1).size
  have BX12 := Lib.hid (BX11.out.go q.1)
  have XC43 := Lib.hid (cell_be XC36.out q.1)
  have XC44 := Lib.hid (cell_be XC37.out q.1)
  have XC45 := Lib.hid (cell_be XC38.out q.1)
  have Ov_46 := Lib.hid (ownSS_below Ov_39.out q.1 (Nat.le_refl _))
  have Oy0_47 := Lib.hid (ownSS_below Oy0_40.out q.1 (Nat.le_refl _))
  have Oy1_48 := Lib.hid (own_below Oy1_41.out q.1 (Nat.le_refl _))
  have Og_49 := Lib.hid (ownSS_below Og_42.out q.1 (Nat.le_refl _))
  clear BX11 XC36 XC37 XC38 Ov_39 Oy0_40 Oy1_41 Og_42
  clear HAK HOK
  have hbc := BX12.out.cell
  have hv := XC43.out
  have hx0 := XC44.out
  have hg := XC45.out
  go_wp2_with fail
  clear hbc hv hx0 hg
  refine (to_any _ HX1.out (HA1.out.keep BX12.out.below) hb1).mono ?_
  rintro e w9 ⟨Az1, cz1, rfl, own, bel⟩
  have s13 : w8.heap.size ≤ w9.heap.size := (bel).size
  have BX13 := Lib.hid (BX12.out.go bel)
  have XC50 := Lib.hid (cell_be XC43.out bel)
  have XC51 := Lib.hid (cell_be XC44.out bel)
  have XC52 := Lib.hid (cell_be XC45.out bel)
  have Ov_53 := Lib.hid (ownSS_below Ov_46.out bel (Nat.le_refl _))
  have Oy0_54 := Lib.hid (ownSS_below Oy0_47.out bel (Nat.le_refl _))
  have Oy1_55 := Lib.hid (own_below Oy1_48.out bel (Nat.le_refl _))
  have Og_56 := Lib.hid (ownSS_below Og_49.out bel (Nat.le_refl _))
  clear BX12 XC43 XC44 XC45 Ov_46 Oy0_47 Oy1_48 Og_49
  have Oz1_57 := Lib.hid own
  have Pz1 := Lib.hid (own_in own)
  clear bel own
  have hbc := BX13.out.cell
  have hv := XC50.out
  have hx0 := XC51.out
  have hg := XC52.out
  go_wp2_with fail
  clear hbc hv hx0 hg
  refine (eq_same _ HX1.out HX1.out (own_rd Oy1_55.out) (own_rd Oz1_57.out) (by omega)).mono ?_
  rintro e w10 ⟨rfl, bel⟩
  have s14 : w9.heap.size ≤ w10.heap.size := (bel).size
  have BX14 := Lib.hid (BX13.out.go bel)
  have XC58 := Lib.hid (cell_be XC50.out bel)
  have XC59 := Lib.hid (cell_be XC51.out bel)
  have XC60 := Lib.hid (cell_be XC52.out bel)
  have Ov_61 := Lib.hid (ownSS_below Ov_53.out bel (Nat.le_refl _))
  have Oy0_62 := Lib.hid (ownSS_below Oy0_54.out bel (Nat.le_refl _))
  have Oy1_63 := Lib.hid (own_below Oy1_55.out bel (Nat.le_refl _))
  have Og_64 := Lib.hid (ownSS_below Og_56.out bel (Nat.le_refl _))
  have Oz1_65 := Lib.hid (own_below Oz1_57.out bel (Nat.le_refl _))
  clear BX13 XC50 XC51 XC52 Ov_53 Oy0_54 Oy1_55 Og_56 Oz1_57
  clear bel
  clear Oz1_65 Pz1
  have ht0 := totalL_le HR0.out x0.length
  rw [List.take_length, HX0.out] at ht0
  have hbc := BX14.out.cell
  have hv := XC58.out
  have hx0 := XC59.out
  have hg := XC60.out
  go_wp2_with fail
  clear hbc hv hx0 hg
  refine (markM_any _ _ Oy0_62.out (by decide) (by omega) HR0.out (by omega) (by omega)).mono ?_
  rintro e w11 ⟨rfl, own, tu⟩
  have s15 : w10.heap.size ≤ w11.heap.size := (tu).size
  have BX15 := Lib.hid (BX14.out.tu tu (by omega))
  have XC66 := Lib.hid (turns_cell tu XC58.out (by omega))
  have XC67 := Lib.hid (turns_cell tu XC59.out (by omega))
  have XC68 := Lib.hid (turns_cell tu XC60.out (by omega))
  have Ov_69 := Lib.hid (ownSS_turns Ov_61.out tu (by omega))
  have Oy1_70 := Lib.hid (tu.own Oy1_63.out Py1.out (by omega))
  have Og_71 := Lib.hid (ownSS_turns Og_64.out tu (by omega))
  clear BX14 XC58 XC59 XC60 Ov_61 Oy1_63 Og_64
  clear Oy0_62 own tu
  have hbc := BX15.out.cell
  have hv := XC66.out
  have hx0 := XC67.out
  have hg := XC68.out
  go_wp2_with fail
  clear hbc hv hx0 hg
  refine (mark_any _ _ Oy1_70.out (by omega) (by omega) (by omega)).mono ?_
  rintro e w12 ⟨rfl, own, gr⟩
  have tu := Turns.of_grown gr Py1.out
  have s16 : w11.heap.size ≤ w12.heap.size := (tu).size
  have BX16 := Lib.hid (BX15.out.tu tu (by omega))
  have XC72 := Lib.hid (turns_cell tu XC66.out (by omega))
  have XC73 := Lib.hid (turns_cell tu XC67.out (by omega))
  have XC74 := Lib.hid (turns_cell tu XC68.out (by omega))
  have Ov_75 := Lib.hid (ownSS_turns Ov_69.out tu (by omega))
  have Og_76 := Lib.hid (ownSS_turns Og_71.out tu (by omega))
  clear BX15 XC66 XC67 XC68 Ov_69 Og_71
  clear Oy1_70 own tu gr Py1
  have hbc := BX16.out.cell
  have hv := XC72.out
  have hx0 := XC73.out
  have hg := XC74.out
  go_wp2_with fail
  clear hbc hv hx0 hg
  refine (eqM_same _ rfl rfl (ownSS_rd Og_76.out) (ownSS_rd Ov_75.out) (by omega)).mono ?_
  rintro e w13 ⟨rfl, bel⟩
  have s17 : w12.heap.size ≤ w13.heap.size := (bel).size
  have BX17 := Lib.hid (BX16.out.go bel)
  have XC77 := Lib.hid (cell_be XC72.out bel)
  have XC78 := Lib.hid (cell_be XC73.out bel)
  have XC79 := Lib.hid (cell_be XC74.out bel)
  have Ov_80 := Lib.hid (ownSS_below Ov_75.out bel (Nat.le_refl _))
  have Og_81 := Lib.hid (ownSS_below Og_76.out bel (Nat.le_refl _))
  clear BX16 XC72 XC73 XC74 Ov_75 Og_76
  clear bel
  have hbc := BX17.out.cell
  have hv := XC77.out
  have hx0 := XC78.out
  have hg := XC79.out
  go_wp2_with fail
  clear hbc hv hx0 hg
  refine (markM_any 1 _ Og_81.out (by decide) hlen HROW.out (by omega) (by omega)).mono ?_
  rintro e w14 ⟨rfl, own, tu⟩
  have s18 : w13.heap.size ≤ w14.heap.size := (tu).size
  have BX18 := Lib.hid (BX17.out.tu tu (by omega))
  have XC82 := Lib.hid (turns_cell tu XC77.out (by omega))
  have XC83 := Lib.hid (turns_cell tu XC78.out (by omega))
  have XC84 := Lib.hid (turns_cell tu XC79.out (by omega))
  have Ov_85 := Lib.hid (ownSS_turns Ov_80.out tu (by omega))
  clear BX17 XC77 XC78 XC79 Ov_80
  have Og_86 := Lib.hid own
  clear Og_81 own tu
  have hbc := BX18.out.cell
  have hv := XC82.out
  have hx0 := XC83.out
  have hg := XC84.out
  go_wp2_with fail
  clear hbc hv hx0 hg
  refine (heldM_any 1 _ rfl (ownSS_rd Og_86.out) hlen HROW.out (by omega) (by omega)).mono ?_
  rintro e w15 ⟨rfl, bel⟩
  have s19 : w14.heap.size ≤ w15.heap.size := (bel).size
  have BX19 := Lib.hid (BX18.out.go bel)
  have XC87 := Lib.hid (cell_be XC82.out bel)
  have XC88 := Lib.hid (cell_be XC83.out bel)
  have XC89 := Lib.hid (cell_be XC84.out bel)
  have Ov_90 := Lib.hid (ownSS_below Ov_85.out bel (Nat.le_refl _))
  have Og_91 := Lib.hid (ownSS_below Og_86.out bel (Nat.le_refl _))
  clear BX18 XC82 XC83 XC84 Ov_85 Og_86
  clear bel
  have hbc := BX19.out.cell
  have hv := XC87.out
  have hx0 := XC88.out
  have hg := XC89.out
  go_wp2_with fail
  clear hbc hv hx0 hg
  refine (toM_any _ HX0.out (HA0.out.keep BX19.out.below) hb0 HR0.out).mono ?_
  rintro e w16 ⟨Ab0, cb0, rfl, own, bel⟩
  have s20 : w15.heap.size ≤ w16.heap.size := (bel).size
  have BX20 := Lib.hid (BX19.out.go bel)
  have XC92 := Lib.hid (cell_be XC87.out bel)
  have XC93 := Lib.hid (cell_be XC88.out bel)
  have XC94 := Lib.hid (cell_be XC89.out bel)
  have Ov_95 := Lib.hid (ownSS_below Ov_90.out bel (Nat.le_refl _))
  have Og_96 := Lib.hid (ownSS_below Og_91.out bel (Nat.le_refl _))
  clear BX19 XC87 XC88 XC89 Ov_90 Og_91
  have Ob0_97 := Lib.hid own
  clear bel own
  have hbc := BX20.out.cell
  have hv := XC92.out
  have hx0 := XC93.out
  have hg := XC94.out
  go_wp2_with fail
  clear hbc hv hx0 hg
  refine (to_any _ HX1.out (HA1.out.keep BX20.out.below) hb1).mono ?_
  rintro e w17 ⟨Ab1, cb1, rfl, own, bel⟩
  have s21 : w16.heap.size ≤ w17.heap.size := (bel).size
  have BX21 := Lib.hid (BX20.out.go bel)
  have XC98 := Lib.hid (cell_be XC92.out bel)
  have XC99 := Lib.hid (cell_be XC93.out bel)
  have XC100 := Lib.hid (cell_be XC94.out bel)
  have Ov_101 := Lib.hid (ownSS_below Ov_95.out bel (Nat.le_refl _))
  have Og_102 := Lib.hid (ownSS_below Og_96.out bel (Nat.le_refl _))
  have Ob0_103 := Lib.hid (ownSS_below Ob0_97.out bel (Nat.le_refl _))
  clear BX20 XC92 XC93 XC94 Ov_95 Og_96 Ob0_97
  have Ob1_104 := Lib.hid own
  have Pb1 := Lib.hid (own_in own)
  clear bel own
  have hbc := BX21.out.cell
  have hv := XC98.out
  have hx0 := XC99.out
  have hg := XC100.out
  go_wp2_with fail
  clear hbc hv hx0 hg
  refine (iRenumberFlags_any _ HX0.out (ownSS_rd Ob0_103.out) hb0 HR0.out HX1.out (own_rd Ob1_104.out) hb1).mono ?_
  rintro e w18 ⟨Ah, ch, rfl, own, bel⟩
  have s22 : w17.heap.size ≤ w18.heap.size := (bel).size
  have BX22 := Lib.hid (BX21.out.go bel)
  have XC105 := Lib.hid (cell_be XC98.out bel)
  have XC106 := Lib.hid (cell_be XC99.out bel)
  have XC107 := Lib.hid (cell_be XC100.out bel)
  have Ov_108 := Lib.hid (ownSS_below Ov_101.out bel (Nat.le_refl _))
  have Og_109 := Lib.hid (ownSS_below Og_102.out bel (Nat.le_refl _))
  have Ob0_110 := Lib.hid (ownSS_below Ob0_103.out bel (Nat.le_refl _))
  have Ob1_111 := Lib.hid (own_below Ob1_104.out bel (Nat.le_refl _))
  clear BX21 XC98 XC99 XC100 Ov_101 Og_102 Ob0_103 Ob1_104
  have Oh_112 := Lib.hid own
  clear bel own
  have s23 : w18.heap.size ≤ (w18.alloc (.cells #[.slice Ah (rnR x0 x1).length ch] 51)).heap.size := ((below1 w18 (.cells #[.slice Ah (rnR x0 x1).length ch] 51))).size
  have BX23 := Lib.hid (BX22.out.go (below1 w18 (.cells #[.slice Ah (rnR x0 x1).length ch] 51)))
  have XC113 := Lib.hid (cell_be XC105.out (below1 w18 (.cells #[.slice Ah (rnR x0 x1).length ch] 51)))
  have XC114 := Lib.hid (cell_be XC106.out (below1 w18 (.cells #[.slice Ah (rnR x0 x1).length ch] 51)))
  have XC115 := Lib.hid (cell_be XC107.out (below1 w18 (.cells #[.slice Ah (rnR x0 x1).length ch] 51)))
  have Ov_116 := Lib.hid (ownSS_below Ov_108.out (below1 w18 (.cells #[.slice Ah (rnR x0 x1).length ch] 51)) (Nat.le_refl _))
  have Og_117 := Lib.hid (ownSS_below Og_109.out (below1 w18 (.cells #[.slice Ah (rnR x0 x1).length ch] 51)) (Nat.le_refl _))
  have Ob0_118 := Lib.hid (ownSS_below Ob0_110.out (below1 w18 (.cells #[.slice Ah (rnR x0 x1).length ch] 51)) (Nat.le_refl _))
  have Ob1_119 := Lib.hid (own_below Ob1_111.out (below1 w18 (.cells #[.slice Ah (rnR x0 x1).length ch] 51)) (Nat.le_refl _))
  have Oh_120 := Lib.hid (ownSS_below Oh_112.out (below1 w18 (.cells #[.slice Ah (rnR x0 x1).length ch] 51)) (Nat.le_refl _))
  clear BX22 XC105 XC106 XC107 Ov_108 Og_109 Ob0_110 Ob1_111 Oh_112
  have XC121 := Lib.hid (Bx.start w18 (.slice Ah (rnR x0 x1).length ch) 51).cell
  have hg_h : w18.heap.size < (w18.alloc (.cells #[.slice Ah (rnR x0 x1).length ch] 51)).heap.size := by simp
  clear Ob0_118
  clear Ob1_119 Pb1
  have hbc := BX23.out.cell
  have hv := XC113.out
  have hx0 := XC114.out
  have hg := XC115.out
  have hh := XC121.out
  go_wp2_with fail
  clear hbc hv hx0 hg hh
  refine (eqM_same _ rfl rfl (ownSS_rd Oh_120.out) (ownSS_rd Ov_116.out) (by omega)).mono ?_
  rintro e w19 ⟨rfl, bel⟩
  have s24 : (w18.alloc (.cells #[.slice Ah (rnR x0 x1).length ch] 51)).heap.size ≤ w19.heap.size := (bel).size
  have BX24 := Lib.hid (BX23.out.go bel)
  have XC122 := Lib.hid (cell_be XC113.out bel)
  have XC123 := Lib.hid (cell_be XC114.out bel)
  have XC124 := Lib.hid (cell_be XC115.out bel)
  have XC125 := Lib.hid (cell_be XC121.out bel)
  have Ov_126 := Lib.hid (ownSS_below Ov_116.out bel (Nat.le_refl _))
  have Og_127 := Lib.hid (ownSS_below Og_117.out bel (Nat.le_refl _))
  have Oh_128 := Lib.hid (ownSS_below Oh_120.out bel (Nat.le_refl _))
  clear BX23 XC113 XC114 XC115 XC121 Ov_116 Og_117 Oh_120
  clear bel
  have hbc := BX24.out.cell
  have hv := XC122.out
  have hx0 := XC123.out
  have hg := XC124.out
  have hh := XC125.out
  go_wp2_with fail
  clear hbc hv hx0 hg hh
  refine (heldM_any 1 _ rfl (ownSS_rd Og_127.out) hlen HROW.out (by omega) (by omega)).mono ?_
  rintro e w20 ⟨rfl, bel⟩
  have s25 : w19.heap.size ≤ w20.heap.size := (bel).size
  have BX25 := Lib.hid (BX24.out.go bel)
  have XC129 := Lib.hid (cell_be XC122.out bel)
  have XC130 := Lib.hid (cell_be XC123.out bel)
  have XC131 := Lib.hid (cell_be XC124.out bel)
  have XC132 := Lib.hid (cell_be XC125.out bel)
  have Ov_133 := Lib.hid (ownSS_below Ov_126.out bel (Nat.le_refl _))
  have Og_134 := Lib.hid (ownSS_below Og_127.out bel (Nat.le_refl _))
  have Oh_135 := Lib.hid (ownSS_below Oh_128.out bel (Nat.le_refl _))
  clear BX24 XC122 XC123 XC124 XC125 Ov_126 Og_127 Oh_128
  clear bel
  have hbc := BX25.out.cell
  have hv := XC129.out
  have hx0 := XC130.out
  have hg := XC131.out
  have hh := XC132.out
  go_wp2
  go_ret
  exact ⟨rfl, BX25.out.below⟩

theorem walk_FnExactRenumberFlags (a0 : Option Addr) (len0 cap0 : Nat) (z0 : List (List Int)) (a1 : Option Addr) (len1 cap1 : Nat) (z1 : List Int) (w : World) (w0 : IsRows w a0 len0 z0) (w1 : IsRow .i64 w a1 len1 cap1 z1) :
    Calls Try.prog 24 #[.agg #[.slice a0 len0 cap0], .slice a1 len1 cap1] w fun e w' => e = .returned (.bool true) ∧ Below w.heap.size w w' := by
  obtain ⟨hx0, ha0, hm0⟩ := w0
  obtain ⟨x1, hx1, ha1, _, hm1⟩ := isRow_rd w1
  exact law_RenumberFlags w hx0 ha0 hm0 hx1 ha1 hm1
end Go.Proofs.Ytjkddoiacifhpaa
