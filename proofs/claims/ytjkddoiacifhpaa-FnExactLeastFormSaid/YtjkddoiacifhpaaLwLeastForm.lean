import Derived.Test.YtjkddoiacifhpaaL9
import Derived.Test.YtjkddoiacifhpaaL6
import Derived.Test.YtjkddoiacifhpaaL1
namespace Go.Proofs.Ytjkddoiacifhpaa
open Go.RowKit

set_option maxHeartbeats 6400000 in
set_option maxRecDepth 8000 in
theorem law_LeastForm {A0 : Option Addr} {c0 : Nat} {x0 : List (List Int)} {n0 : Nat} (w : World) (hx0 : x0.length = n0) (ha0 : RdSS w A0 x0) (hm0 : n0 ≤ maxLen) :
    Calls Try.prog 23 #[.agg #[.slice A0 n0 c0]] w fun e w' => e = .returned (.bool true) ∧ Below w.heap.size w w' := by
  unfold maxLen at hm0
  have HX0 := Lib.hid hx0
  have HA0 := Lib.hid ha0
  clear hx0 ha0
  have BX0 := Lib.hid (Bx.start w (.slice A0 n0 c0) 73)
  have hs0 : w.heap.size + 1 ≤ (w.alloc (.cells #[.slice A0 n0 c0] 73)).heap.size := by simp
  go_enter Try.func23, Try.ntmps23
  have hbc := BX0.out.cell
  go_wp2_with fail
  clear hbc
  refine (szM_any _ HX0.out (HA0.out.al _) hm0).mono ?_
  rintro e w0 ⟨r, rfl, g0, g1, g2, bel⟩
  have s1 : (w.alloc (.cells #[.slice A0 n0 c0] 73)).heap.size ≤ w0.heap.size := (bel).size
  have BX1 := Lib.hid (BX0.out.go bel)
  clear BX0 
  clear bel
  by_cases hneg : r < 0
  · clear g2
    go_wp2
    go_ret
    exact ⟨rfl, BX1.out.below⟩
  have hz := g2 (by omega)
  have hb0 : n0 ≤ 1048576 := by have := hz.1; rw [HX0.out] at this; omega
  have HR0 := Lib.hid hz.2
  clear g2 hz
  have hbc := BX1.out.cell
  go_wp2_with fail
  clear hbc
  refine (toM_any _ HX0.out (HA0.out.keep BX1.out.below) hb0 HR0.out).mono ?_
  rintro e w1 ⟨Aa0, ca0, rfl, own, bel⟩
  have s2 : w0.heap.size ≤ w1.heap.size := (bel).size
  have BX2 := Lib.hid (BX1.out.go bel)
  clear BX1 
  have Oa0_1 := Lib.hid own
  clear bel own
  have hbc := BX2.out.cell
  go_wp2_with fail
  clear hbc
  refine (sLeastForm_any _ HX0.out (ownSS_rd Oa0_1.out) hb0 HR0.out).mono ?_
  rintro e w2 ⟨Av, cv, rfl, own, bel⟩
  have s3 : w1.heap.size ≤ w2.heap.size := (bel).size
  have BX3 := Lib.hid (BX2.out.go bel)
  have Oa0_2 := Lib.hid (ownSS_below Oa0_1.out bel (Nat.le_refl _))
  clear BX2 Oa0_1
  have Ov_3 := Lib.hid own
  clear bel own
  have s4 : w2.heap.size ≤ (w2.alloc (.cells #[.slice Av (lfR x0).length cv] 51)).heap.size := ((below1 w2 (.cells #[.slice Av (lfR x0).length cv] 51))).size
  have BX4 := Lib.hid (BX3.out.go (below1 w2 (.cells #[.slice Av (lfR x0).length cv] 51)))
  have Oa0_4 := Lib.hid (ownSS_below Oa0_2.out (below1 w2 (.cells #[.slice Av (lfR x0).length cv] 51)) (Nat.le_refl _))
  have Ov_5 := Lib.hid (ownSS_below Ov_3.out (below1 w2 (.cells #[.slice Av (lfR x0).length cv] 51)) (Nat.le_refl _))
  clear BX3 Oa0_2 Ov_3
  have XC6 := Lib.hid (Bx.start w2 (.slice Av (lfR x0).length cv) 51).cell
  have hg_v : w2.heap.size < (w2.alloc (.cells #[.slice Av (lfR x0).length cv] 51)).heap.size := by simp
  clear Oa0_4
  have hbc := BX4.out.cell
  have hv := XC6.out
  go_wp2_with fail
  clear hbc hv
  refine (toM_any _ HX0.out (HA0.out.keep BX4.out.below) hb0 HR0.out).mono ?_
  rintro e w3 ⟨Ay0, cy0, rfl, own, bel⟩
  have s5 : (w2.alloc (.cells #[.slice Av (lfR x0).length cv] 51)).heap.size ≤ w3.heap.size := (bel).size
  have BX5 := Lib.hid (BX4.out.go bel)
  have XC7 := Lib.hid (cell_be XC6.out bel)
  have Ov_8 := Lib.hid (ownSS_below Ov_5.out bel (Nat.le_refl _))
  clear BX4 XC6 Ov_5
  have Oy0_9 := Lib.hid own
  clear bel own
  have s6 : w3.heap.size ≤ (w3.alloc (.cells #[.slice Ay0 n0 cy0] 51)).heap.size := ((below1 w3 (.cells #[.slice Ay0 n0 cy0] 51))).size
  have BX6 := Lib.hid (BX5.out.go (below1 w3 (.cells #[.slice Ay0 n0 cy0] 51)))
  have XC10 := Lib.hid (cell_be XC7.out (below1 w3 (.cells #[.slice Ay0 n0 cy0] 51)))
  have Ov_11 := Lib.hid (ownSS_below Ov_8.out (below1 w3 (.cells #[.slice Ay0 n0 cy0] 51)) (Nat.le_refl _))
  have Oy0_12 := Lib.hid (ownSS_below Oy0_9.out (below1 w3 (.cells #[.slice Ay0 n0 cy0] 51)) (Nat.le_refl _))
  clear BX5 XC7 Ov_8 Oy0_9
  have XC13 := Lib.hid (Bx.start w3 (.slice Ay0 n0 cy0) 51).cell
  have hg_x0 : w3.heap.size < (w3.alloc (.cells #[.slice Ay0 n0 cy0] 51)).heap.size := by simp
  have hbc := BX6.out.cell
  have hv := XC10.out
  have hx0 := XC13.out
  go_wp2_with fail
  clear hbc hv hx0
  refine (iLeastForm_any _ HX0.out (ownSS_rd Oy0_12.out) hb0 HR0.out).mono ?_
  rintro e w4 ⟨Ag, cg, rfl, own, bel⟩
  have s7 : (w3.alloc (.cells #[.slice Ay0 n0 cy0] 51)).heap.size ≤ w4.heap.size := (bel).size
  have BX7 := Lib.hid (BX6.out.go bel)
  have XC14 := Lib.hid (cell_be XC10.out bel)
  have XC15 := Lib.hid (cell_be XC13.out bel)
  have Ov_16 := Lib.hid (ownSS_below Ov_11.out bel (Nat.le_refl _))
  have Oy0_17 := Lib.hid (ownSS_below Oy0_12.out bel (Nat.le_refl _))
  clear BX6 XC10 XC13 Ov_11 Oy0_12
  have Og_18 := Lib.hid own
  clear bel own
  have s8 : w4.heap.size ≤ (w4.alloc (.cells #[.slice Ag (lfR x0).length cg] 51)).heap.size := ((below1 w4 (.cells #[.slice Ag (lfR x0).length cg] 51))).size
  have BX8 := Lib.hid (BX7.out.go (below1 w4 (.cells #[.slice Ag (lfR x0).length cg] 51)))
  have XC19 := Lib.hid (cell_be XC14.out (below1 w4 (.cells #[.slice Ag (lfR x0).length cg] 51)))
  have XC20 := Lib.hid (cell_be XC15.out (below1 w4 (.cells #[.slice Ag (lfR x0).length cg] 51)))
  have Ov_21 := Lib.hid (ownSS_below Ov_16.out (below1 w4 (.cells #[.slice Ag (lfR x0).length cg] 51)) (Nat.le_refl _))
  have Oy0_22 := Lib.hid (ownSS_below Oy0_17.out (below1 w4 (.cells #[.slice Ag (lfR x0).length cg] 51)) (Nat.le_refl _))
  have Og_23 := Lib.hid (ownSS_below Og_18.out (below1 w4 (.cells #[.slice Ag (lfR x0).length cg] 51)) (Nat.le_refl _))
  clear BX7 XC14 XC15 Ov_16 Oy0_17 Og_18
  have XC24 := Lib.hid (Bx.start w4 (.slice Ag (lfR x0).length cg) 51).cell
  have hg_g : w4.heap.size < (w4.alloc (.cells #[.slice Ag (lfR x0).length cg] 51)).heap.size := by simp
  have hlen : (lfR x0).length ≤ 1048576 := (lfR_le _).1
  have HROW := Lib.hid (show ∀ xs ∈ lfR x0, (xs.length : Int) ≤ 1048576 from (lfR_le _).2)
  have htot := totalL_le HROW.out (lfR x0).length
  rw [List.take_length] at htot
  have hbc := BX8.out.cell
  have hv := XC19.out
  have hx0 := XC20.out
  have hg := XC24.out
  go_wp2_with fail
  clear hbc hv hx0 hg
  refine (eqM_same _ rfl rfl (ownSS_rd Og_23.out) (ownSS_rd Ov_21.out) (by omega)).mono ?_
  rintro e w5 ⟨rfl, bel⟩
  have s9 : (w4.alloc (.cells #[.slice Ag (lfR x0).length cg] 51)).heap.size ≤ w5.heap.size := (bel).size
  have BX9 := Lib.hid (BX8.out.go bel)
  have XC25 := Lib.hid (cell_be XC19.out bel)
  have XC26 := Lib.hid (cell_be XC20.out bel)
  have XC27 := Lib.hid (cell_be XC24.out bel)
  have Ov_28 := Lib.hid (ownSS_below Ov_21.out bel (Nat.le_refl _))
  have Oy0_29 := Lib.hid (ownSS_below Oy0_22.out bel (Nat.le_refl _))
  have Og_30 := Lib.hid (ownSS_below Og_23.out bel (Nat.le_refl _))
  clear BX8 XC19 XC20 XC24 Ov_21 Oy0_22 Og_23
  clear bel
  have HAK := Lib.hid (HA0.out.keep BX9.out.below)
  have HOK := Lib.hid (ownSS_rd Oy0_29.out)
  have hbc := BX9.out.cell
  have hv := XC25.out
  have hx0 := XC26.out
  have hg := XC27.out
  go_wp2_with fail
  go_region_held3 (fun w' => Below w5.heap.size w5 w' ∧ w'.cell? ⟨w.heap.size, 0, none⟩ = some (.slice A0 n0 c0) ∧ w'.cell? ⟨w3.heap.size, 0, none⟩ = some (.slice Ay0 n0 cy0)) (first | (exact ⟨below_drewN (Below.refl _ _) 1, hbc, hx0⟩) | (exact q))
    (first
      | (go_at_call 81
         refine (toM_any _ HX0.out (rd_s3 HAK.out (by assumption)) hb0 HR0.out).mono ?_
         rintro e wc ⟨A6, c6, rfl, own, bel⟩
         have q := s3_go (by assumption) bel)
      | (go_at_call 82
         refine (eqM_same _ HX0.out HX0.out (rd_s3 HOK.out (by assumption)) (ownSS_rd own) (by omega)).mono ?_
         rintro e w6 ⟨rfl, bel2⟩
         have q := s3_go (by assumption) bel2))
  clear hbc hv hx0 hg
  have s10 : w5.heap.size ≤ w6.heap.size := (q.1).size
  have BX10 := Lib.hid (BX9.out.go q.1)
  have XC31 := Lib.hid (cell_be XC25.out q.1)
  have XC32 := Lib.hid (cell_be XC26.out q.1)
  have XC33 := Lib.hid (cell_be XC27.out q.1)
  have Ov_34 := Lib.hid (ownSS_below Ov_28.out q.1 (Nat.le_refl _))
  have Oy0_35 := Lib.hid (ownSS_below Oy0_29.out q.1 (Nat.le_refl _))
  have Og_36 := Lib.hid (ownSS_below Og_30.out q.1 (Nat.le_refl _))
  clear BX9 XC25 XC26 XC27 Ov_28 Oy0_29 Og_30
  clear HAK HOK
  have ht0 := totalL_le HR0.out x0.length
  rw [List.take_length, HX0.out] at ht0
  have hbc := BX10.out.cell
  have hv := XC31.out
  have hx0 := XC32.out
  have hg := XC33.out
  go_wp2_with fail
  clear hbc hv hx0 hg
  refine (markM_any _ _ Oy0_35.out (by decide) (by omega) HR0.out (by omega) (by omega)).mono ?_
  rintro e w7 ⟨rfl, own, tu⟩
  have s11 : w6.heap.size ≤ w7.heap.size := (tu).size
  have BX11 := Lib.hid (BX10.out.tu tu (by omega))
  have XC37 := Lib.hid (turns_cell tu XC31.out (by omega))
  have XC38 := Lib.hid (turns_cell tu XC32.out (by omega))
  have XC39 := Lib.hid (turns_cell tu XC33.out (by omega))
  have Ov_40 := Lib.hid (ownSS_turns Ov_34.out tu (by omega))
  have Og_41 := Lib.hid (ownSS_turns Og_36.out tu (by omega))
  clear BX10 XC31 XC32 XC33 Ov_34 Og_36
  clear Oy0_35 own tu
  have hbc := BX11.out.cell
  have hv := XC37.out
  have hx0 := XC38.out
  have hg := XC39.out
  go_wp2_with fail
  clear hbc hv hx0 hg
  refine (eqM_same _ rfl rfl (ownSS_rd Og_41.out) (ownSS_rd Ov_40.out) (by omega)).mono ?_
  rintro e w8 ⟨rfl, bel⟩
  have s12 : w7.heap.size ≤ w8.heap.size := (bel).size
  have BX12 := Lib.hid (BX11.out.go bel)
  have XC42 := Lib.hid (cell_be XC37.out bel)
  have XC43 := Lib.hid (cell_be XC38.out bel)
  have XC44 := Lib.hid (cell_be XC39.out bel)
  have Ov_45 := Lib.hid (ownSS_below Ov_40.out bel (Nat.le_refl _))
  have Og_46 := Lib.hid (ownSS_below Og_41.out bel (Nat.le_refl _))
  clear BX11 XC37 XC38 XC39 Ov_40 Og_41
  clear bel
  have hbc := BX12.out.cell
  have hv := XC42.out
  have hx0 := XC43.out
  have hg := XC44.out
  go_wp2_with fail
  clear hbc hv hx0 hg
  refine (markM_any 1 _ Og_46.out (by decide) hlen HROW.out (by omega) (by omega)).mono ?_
  rintro e w9 ⟨rfl, own, tu⟩
  have s13 : w8.heap.size ≤ w9.heap.size := (tu).size
  have BX13 := Lib.hid (BX12.out.tu tu (by omega))
  have XC47 := Lib.hid (turns_cell tu XC42.out (by omega))
  have XC48 := Lib.hid (turns_cell tu XC43.out (by omega))
  have XC49 := Lib.hid (turns_cell tu XC44.out (by omega))
  have Ov_50 := Lib.hid (ownSS_turns Ov_45.out tu (by omega))
  clear BX12 XC42 XC43 XC44 Ov_45
  have Og_51 := Lib.hid own
  clear Og_46 own tu
  have hbc := BX13.out.cell
  have hv := XC47.out
  have hx0 := XC48.out
  have hg := XC49.out
  go_wp2_with fail
  clear hbc hv hx0 hg
  refine (heldM_any 1 _ rfl (ownSS_rd Og_51.out) hlen HROW.out (by omega) (by omega)).mono ?_
  rintro e w10 ⟨rfl, bel⟩
  have s14 : w9.heap.size ≤ w10.heap.size := (bel).size
  have BX14 := Lib.hid (BX13.out.go bel)
  have XC52 := Lib.hid (cell_be XC47.out bel)
  have XC53 := Lib.hid (cell_be XC48.out bel)
  have XC54 := Lib.hid (cell_be XC49.out bel)
  have Ov_55 := Lib.hid (ownSS_below Ov_50.out bel (Nat.le_refl _))
  have Og_56 := Lib.hid (ownSS_below Og_51.out bel (Nat.le_refl _))
  clear BX13 XC47 XC48 XC49 Ov_50 Og_51
  clear bel
  have hbc := BX14.out.cell
  have hv := XC52.out
  have hx0 := XC53.out
  have hg := XC54.out
  go_wp2_with fail
  clear hbc hv hx0 hg
  refine (toM_any _ HX0.out (HA0.out.keep BX14.out.below) hb0 HR0.out).mono ?_
  rintro e w11 ⟨Ab0, cb0, rfl, own, bel⟩
  have s15 : w10.heap.size ≤ w11.heap.size := (bel).size
  have BX15 := Lib.hid (BX14.out.go bel)
  have XC57 := Lib.hid (cell_be XC52.out bel)
  have XC58 := Lib.hid (cell_be XC53.out bel)
  have XC59 := Lib.hid (cell_be XC54.out bel)
  have Ov_60 := Lib.hid (ownSS_below Ov_55.out bel (Nat.le_refl _))
  have Og_61 := Lib.hid (ownSS_below Og_56.out bel (Nat.le_refl _))
  clear BX14 XC52 XC53 XC54 Ov_55 Og_56
  have Ob0_62 := Lib.hid own
  clear bel own
  have hbc := BX15.out.cell
  have hv := XC57.out
  have hx0 := XC58.out
  have hg := XC59.out
  go_wp2_with fail
  clear hbc hv hx0 hg
  refine (iLeastForm_any _ HX0.out (ownSS_rd Ob0_62.out) hb0 HR0.out).mono ?_
  rintro e w12 ⟨Ah, ch, rfl, own, bel⟩
  have s16 : w11.heap.size ≤ w12.heap.size := (bel).size
  have BX16 := Lib.hid (BX15.out.go bel)
  have XC63 := Lib.hid (cell_be XC57.out bel)
  have XC64 := Lib.hid (cell_be XC58.out bel)
  have XC65 := Lib.hid (cell_be XC59.out bel)
  have Ov_66 := Lib.hid (ownSS_below Ov_60.out bel (Nat.le_refl _))
  have Og_67 := Lib.hid (ownSS_below Og_61.out bel (Nat.le_refl _))
  have Ob0_68 := Lib.hid (ownSS_below Ob0_62.out bel (Nat.le_refl _))
  clear BX15 XC57 XC58 XC59 Ov_60 Og_61 Ob0_62
  have Oh_69 := Lib.hid own
  clear bel own
  have s17 : w12.heap.size ≤ (w12.alloc (.cells #[.slice Ah (lfR x0).length ch] 51)).heap.size := ((below1 w12 (.cells #[.slice Ah (lfR x0).length ch] 51))).size
  have BX17 := Lib.hid (BX16.out.go (below1 w12 (.cells #[.slice Ah (lfR x0).length ch] 51)))
  have XC70 := Lib.hid (cell_be XC63.out (below1 w12 (.cells #[.slice Ah (lfR x0).length ch] 51)))
  have XC71 := Lib.hid (cell_be XC64.out (below1 w12 (.cells #[.slice Ah (lfR x0).length ch] 51)))
  have XC72 := Lib.hid (cell_be XC65.out (below1 w12 (.cells #[.slice Ah (lfR x0).length ch] 51)))
  have Ov_73 := Lib.hid (ownSS_below Ov_66.out (below1 w12 (.cells #[.slice Ah (lfR x0).length ch] 51)) (Nat.le_refl _))
  have Og_74 := Lib.hid (ownSS_below Og_67.out (below1 w12 (.cells #[.slice Ah (lfR x0).length ch] 51)) (Nat.le_refl _))
  have Ob0_75 := Lib.hid (ownSS_below Ob0_68.out (below1 w12 (.cells #[.slice Ah (lfR x0).length ch] 51)) (Nat.le_refl _))
  have Oh_76 := Lib.hid (ownSS_below Oh_69.out (below1 w12 (.cells #[.slice Ah (lfR x0).length ch] 51)) (Nat.le_refl _))
  clear BX16 XC63 XC64 XC65 Ov_66 Og_67 Ob0_68 Oh_69
  have XC77 := Lib.hid (Bx.start w12 (.slice Ah (lfR x0).length ch) 51).cell
  have hg_h : w12.heap.size < (w12.alloc (.cells #[.slice Ah (lfR x0).length ch] 51)).heap.size := by simp
  clear Ob0_75
  have hbc := BX17.out.cell
  have hv := XC70.out
  have hx0 := XC71.out
  have hg := XC72.out
  have hh := XC77.out
  go_wp2_with fail
  clear hbc hv hx0 hg hh
  refine (eqM_same _ rfl rfl (ownSS_rd Oh_76.out) (ownSS_rd Ov_73.out) (by omega)).mono ?_
  rintro e w13 ⟨rfl, bel⟩
  have s18 : (w12.alloc (.cells #[.slice Ah (lfR x0).length ch] 51)).heap.size ≤ w13.heap.size := (bel).size
  have BX18 := Lib.hid (BX17.out.go bel)
  have XC78 := Lib.hid (cell_be XC70.out bel)
  have XC79 := Lib.hid (cell_be XC71.out bel)
  have XC80 := Lib.hid (cell_be XC72.out bel)
  have XC81 := Lib.hid (cell_be XC77.out bel)
  have Ov_82 := Lib.hid (ownSS_below Ov_73.out bel (Nat.le_refl _))
  have Og_83 := Lib.hid (ownSS_below Og_74.out bel (Nat.le_refl _))
  have Oh_84 := Lib.hid (ownSS_below Oh_76.out bel (Nat.le_refl _))
  clear BX17 XC70 XC71 XC72 XC77 Ov_73 Og_74 Oh_76
  clear bel
  have hbc := BX18.out.cell
  have hv := XC78.out
  have hx0 := XC79.out
  have hg := XC80.out
  have hh := XC81.out
  go_wp2_with fail
  clear hbc hv hx0 hg hh
  refine (heldM_any 1 _ rfl (ownSS_rd Og_83.out) hlen HROW.out (by omega) (by omega)).mono ?_
  rintro e w14 ⟨rfl, bel⟩
  have s19 : w13.heap.size ≤ w14.heap.size := (bel).size
  have BX19 := Lib.hid (BX18.out.go bel)
  have XC85 := Lib.hid (cell_be XC78.out bel)
  have XC86 := Lib.hid (cell_be XC79.out bel)
  have XC87 := Lib.hid (cell_be XC80.out bel)
  have XC88 := Lib.hid (cell_be XC81.out bel)
  have Ov_89 := Lib.hid (ownSS_below Ov_82.out bel (Nat.le_refl _))
  have Og_90 := Lib.hid (ownSS_below Og_83.out bel (Nat.le_refl _))
  have Oh_91 := Lib.hid (ownSS_below Oh_84.out bel (Nat.le_refl _))
  clear BX18 XC78 XC79 XC80 XC81 Ov_82 Og_83 Oh_84
  clear bel
  have hbc := BX19.out.cell
  have hv := XC85.out
  have hx0 := XC86.out
  have hg := XC87.out
  have hh := XC88.out
  go_wp2
  go_ret
  exact ⟨rfl, BX19.out.below⟩

theorem walk_FnExactLeastForm (a0 : Option Addr) (len0 cap0 : Nat) (z0 : List (List Int)) (w : World) (w0 : IsRows w a0 len0 z0) :
    Calls Try.prog 23 #[.agg #[.slice a0 len0 cap0]] w fun e w' => e = .returned (.bool true) ∧ Below w.heap.size w w' := by
  obtain ⟨hx0, ha0, hm0⟩ := w0
  exact law_LeastForm w hx0 ha0 hm0
end Go.Proofs.Ytjkddoiacifhpaa
